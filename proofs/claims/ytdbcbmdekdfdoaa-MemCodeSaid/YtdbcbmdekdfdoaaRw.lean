/- WHAT IS PROVED: the reference's With of layer 3: a space with other bytes. CONDITIONS: the slices' cells hold the lists; at most 4096 of them. -/
import Derived.Test.YtdbcbmdekdfdoaaRg
namespace Go.QrMem
open Go Go.RowKit Go.QrBits
theorem Kw.setOther {fs : List (Nat × List Value × TypeId)} {w0 w : World} {b j : Nat} {v : Value} (h : Kw fs w0 w) (hb : w0.heap.size ≤ b) (hne : ∀ f ∈ fs, f.1 ≠ b) : Kw fs w0 (w.setCell ⟨b, j, none⟩ v) :=
  ⟨h.base.setCell hb _, fun f hf => by rw [Below.heap_setCell _ _ _ _ (hne f hf)]; exact h.blk f hf⟩
end Go.QrMem
namespace Go.Proofs.Ytdbcbmdekdfdoaa
open Go Go.RowKit Go.QrBits Go.QrMem
attribute [local go_sem] reg_cell reg_frozen reg_setCell reg_lt reg_lt_add reg_drew reg_of_drew

theorem ownsRow_set_ne {w : World} {base e size n g k : Nat} {v u : Value} {xs : List Value} (h : w.ownsRow base e size v n xs) (hne : v.ownBlock ≠ some g) : (w.setCell ⟨g, k, none⟩ u).ownsRow base e size v n xs := by
  obtain ⟨h1, (h2 | ⟨g1, cap, cur, h3, h4, h5, h6⟩)⟩ := h
  · exact ⟨h1, .inl h2⟩
  · subst h3
    have : g1 ≠ g := fun e => hne (by simp [Value.ownBlock, e])
    exact ⟨h1, .inr ⟨g1, cap, cur, rfl, h4, by rw [Below.heap_setCell _ _ _ _ this]; exact h5, h6⟩⟩
set_option maxHeartbeats 4000000 in
set_option maxRecDepth 100000 in
theorem with_z (a : Option Addr) (c : Nat) (a2 : Option Addr) (c2 : Nat) (P B : List Int) (t : Int) (ab : Option Addr) (cb : Nat) (w : World) (hs : SpIn w a c a2 c2 P B) (hn : P.length ≤ 4096) (hn2 : B.length ≤ 4096) :
    Calls Try.prog 66 #[.agg #[.slice a P.length c, .slice a2 B.length c2], .int .i64 t, .slice ab 0 cb] w (ClonedSp P B w) := by
  have HS := Lib.hid hs
  clear hs
  have HK := ((Kw.start w).box (vs := [.slice a P.length c, .slice a2 B.length c2]) (t := 25)).box (vs := [.slice none 0 0, .slice none 0 0]) (t := 25)
  simp only [World.size_alloc] at HK
  go_enter Try.func66, Try.ntmps66
  go_wp2_with fail
  refine (copy_c _ _ _ _ _ _ _ (HS.out.below HK.base) hn hn2).mono ?_
  rintro e w1 ⟨v, rfl, ⟨a1, c1, b1, d1, rfl, ho1, ho2⟩, hq⟩
  simp only [World.size_alloc] at ho1 ho2
  replace HK := HK.below hq
  clear hq
  have z1 := HK.lt 0 rfl
  have HO1 := Lib.hid ho1
  have HO2 := Lib.hid ho2
  clear ho1 ho2
  have r_0 := HK.get 0 0 rfl rfl
  have r_1 := HK.get 0 1 rfl rfl
  have r_f0 := HK.fz 0 0 rfl
  have r_f1 := HK.fz 0 1 rfl
  have hK := HK.base
  obtain ⟨g1, g2⟩ := put2 (.slice a1 P.length c1) (.slice b1 B.length d1) r_0 r_1
  clear HK
  go_wp2
  go_rounds 1
  refine bodyPost_ret (v := .agg #[.slice a1 P.length c1, .slice b1 B.length d1]) (by simp [results, Try.results66, go_sem, g1, g2, z1]) rfl ?_
  refine ⟨_, rfl, ⟨a1, c1, b1, d1, rfl, ?_, ?_⟩, ?_⟩
  · exact ownsRow_base ((ownsRow_setCell_below (ownsRow_setCell_below HO1.out (by show w.heap.size + 1 < _; omega) _) (by show w.heap.size + 1 < _; omega) _).alloc _) (by omega)
  · exact ownsRow_base ((ownsRow_setCell_below (ownsRow_setCell_below HO2.out (by show w.heap.size + 1 < _; omega) _) (by show w.heap.size + 1 < _; omega) _).alloc _) (by omega)
  · exact b_alloc ((hK.setCell (by show _ ≤ w.heap.size + 1; omega) _).setCell (by show _ ≤ w.heap.size + 1; omega) _)
set_option maxHeartbeats 4000000 in
set_option maxRecDepth 100000 in
theorem with_c (a : Option Addr) (c : Nat) (a2 : Option Addr) (c2 : Nat) (P B : List Int) (t : Int) (ab : Option Addr) (cb nb : Nat) (bs : List Int) (w : World) (hs : SpIn w a c a2 c2 P B) (hsb : SlAt w ab (bV bs)) (hl : bs.length = nb) (hn : P.length ≤ 4096) (hn2 : B.length ≤ 4096)
    (h0 : 0 < nb) (ht : 0 ≤ t) (htn : t + nb ≤ B.length) :
    Calls Try.prog 66 #[.agg #[.slice a P.length c, .slice a2 B.length c2], .int .i64 t, .slice ab nb cb] w (ClonedSp P (wrB B t bs nb) w) := by
  have HS := Lib.hid hs
  have HSB := Lib.hid hsb
  have HL := Lib.hid hl
  clear hs hsb hl
  have hn3 : nb ≤ 4096 := by omega
  have HK := ((Kw.start w).box (vs := [.slice a P.length c, .slice a2 B.length c2]) (t := 25)).box (vs := [.slice none 0 0, .slice none 0 0]) (t := 25)
  simp only [World.size_alloc] at HK
  go_enter Try.func66, Try.ntmps66
  go_wp2_with fail
  refine (copy_c _ _ _ _ _ _ _ (HS.out.below HK.base) hn hn2).mono ?_
  rintro e w1 ⟨v, rfl, ⟨a1, c1, b1, d1, rfl, ho1, ho2⟩, hq⟩
  simp only [World.size_alloc] at ho1 ho2
  replace HK := HK.below hq
  clear hq
  have z1 := HK.lt 0 rfl
  obtain ⟨k1, hk1⟩ : ∃ k, B.length = k + 1 := ⟨B.length - 1, by omega⟩
  obtain ⟨g, hg, hgb, hgl⟩ : ∃ g, b1 = some ⟨g, 0, none⟩ ∧ w.heap.size + 1 + 1 ≤ g ∧ g < w1.heap.size := by
    obtain ⟨g, _, (⟨h1, _⟩ | ⟨h1, h2, h3⟩)⟩ := own_blk ho2 0
    · subst h1
      obtain ⟨_, (⟨_, h5⟩ | ⟨_, _, _, h5, _⟩)⟩ := ho2
      · omega
      · cases h5
    · refine ⟨g, ?_, h1, h2⟩
      cases b1 with
      | none => simp [Value.ownBlock] at h3
      | some x =>
        obtain ⟨xb, xo, xs⟩ := x
        obtain ⟨_, (⟨h5, _⟩ | ⟨_, _, _, h5, _⟩)⟩ := ho2
        · cases h5
        · cases h5
          simp [Value.ownBlock] at h3
          rw [h3]
  subst hg
  have hne1 := rows_apart' ho2 ho1 (by decide) rfl
  replace HK := HK.box (vs := [.slice a1 P.length c1, .slice (some ⟨g, 0, none⟩) B.length d1]) (t := 25)
  have HO1 := Lib.hid (ho1.alloc (.cells #[.slice a1 P.length c1, .slice (some ⟨g, 0, none⟩) B.length d1] 25))
  have HO2 := Lib.hid (ho2.alloc (.cells #[.slice a1 P.length c1, .slice (some ⟨g, 0, none⟩) B.length d1] 25))
  have HNE := Lib.hid hne1
  clear ho1 ho2 hne1 hk1
  go_wp2_with fail
  go_loopw [8] (fun i wr => ∃ (k : Nat) (w5 : World), w5 = wr ∧ k ≤ nb ∧ i = .int .i64 k ∧ Hid (w5.ownsRow (w.heap.size + 1 + 1) 3 1 (.slice a1 P.length c1) P.length (iV P)) ∧ Hid (w5.ownsRow (w.heap.size + 1 + 1) 5 1 (.slice (some ⟨g, 0, none⟩) B.length d1) B.length (bV (wrB B t bs k))) ∧
    Kw [(w1.heap.size, [.slice a1 P.length c1, .slice (some ⟨g, 0, none⟩) B.length d1], 25), (w.heap.size + 1, [.slice none 0 0, .slice none 0 0], 25), (w.heap.size, [.slice a P.length c, .slice a2 B.length c2], 25)] w w5) (fun i _ => nb - (intOf i).toNat)
  case atStart => exact ⟨0, _, rfl, Nat.zero_le _, rfl, HO1.out, HO2.out, HK⟩
  case round =>
    clear HK HO1 HO2
    obtain ⟨k, w5, hw, hk, rfl, HO1, HO2, HK⟩ := hrel
    subst hw
    have x_0 := HK.get 0 0 rfl rfl
    have x_1 := HK.get 0 1 rfl rfl
    have x_s := HK.lt 0 rfl
    by_cases hlt : k < nb
    · obtain ⟨m, hm0⟩ : ∃ m : Nat, t + (k : Int) = m := ⟨(t + k).toNat, by omega⟩
      have hmB : m < B.length := by omega
      obtain ⟨bb, ob, hab, hbb, hbc⟩ : ∃ bb ob : Nat, ab = some ⟨bb, ob, none⟩ ∧ bb < w5.heap.size ∧ w5.cell? ⟨bb, ob + k, none⟩ = some (.int .u8 (bs[k]?.getD 0)) := by
        rcases HSB.out.below HK.base with h | ⟨bb, ob, h, h4, h5⟩
        · have : bs = [] := by simpa [bV] using h
          subst this; have := HL.out; simp at this; omega
        · refine ⟨bb, ob, h, h4, h5 k _ (bV_get ?_)⟩
          have : k < bs.length := by have := HL.out; omega
          simp [this]
      subst hab
      have dg : w5.cell? ⟨g, m, none⟩ = some (.int .u8 ((wrB B t bs k).getD m 0)) := by
        rw [HO2.out.cellAt _ (by omega)]
        exact bV_get (by rw [List.getD_eq_getElem?_getD]; have : m < (wrB B t bs k).length := by rw [wrB_len]; exact hmB
                         simp [this])
      have df := HO2.out.frozenAt m
      have hsz := HK.size
      have hg5 : g < w5.heap.size := by omega
      have HY : Hid ((wrB B t bs (k + 1)) = (wrB B t bs k).set m (bs[k]?.getD 0)) := by show _ = _; rw [wrB, hm0, Int.toNat_natCast]
      generalize hy : bs[k]?.getD 0 = y at *
      have HYY := Lib.hid hy
      clear hy
      generalize (wrB B t bs k).getD m 0 = z at dg
      have m0 : (0 : Int) ≤ (m : Int) := Int.natCast_nonneg _
      have m1 : (m : Int) < (B.length : Int) := by omega
      have HKh := Lib.hid HK
      clear HK
      have hww : IntKind.i64.wrap (m : Int) = (m : Int) := IntWalk.i64_in _ (by omega)
      go_wp2_with fail
      refine wp_quiet_tail 10 (by kernel_rfl) (by kernel_rfl) ?_
      simp only [List.take_succ_cons, List.take_zero, List.drop_succ_cons, List.drop_zero]
      repeat (quiet_step (fail))
      refine wpQuiet_nil ?_
      intro _ hw'; obtain ⟨p, rfl⟩ := hw'
      clear hww
      go_wp2
      go_roundw
      case rel =>
        refine ⟨k + 1, _, rfl, by omega, by go_num, ownsRow_below (ownsRow_set_ne HO1.out HNE.out) (below_reg _ p), ?_, (HKh.out.setOther (by omega) ?_).reg⟩
        · rw [HY.out]
          have e : bV ((wrB B t bs k).set m y) = (bV (wrB B t bs k)).set m (.int .u8 y) := by simp [bV, List.map_set]
          rw [e]
          exact ownsRow_below (HO2.out.stored _ _).1 (below_reg _ p)
        · intro f hf
          simp only [List.mem_cons, List.not_mem_nil, or_false] at hf
          rcases hf with rfl | rfl | rfl <;> (dsimp only; omega)
      case measure => simp [intOf]; omega
    · have hkn : nb = k := by omega
      have HN := Lib.hid hkn
      clear hkn
      have r_0 := HK.get 1 0 rfl rfl
      have r_1 := HK.get 1 1 rfl rfl
      have r_f0 := HK.fz 1 0 rfl
      have r_f1 := HK.fz 1 1 rfl
      have r_s := HK.lt 1 rfl
      have hK := HK.base
      obtain ⟨g1, g2⟩ := put2 (.slice a1 P.length c1) (.slice (some ⟨g, 0, none⟩) B.length d1) r_0 r_1
      clear HK
      go_wp2
      refine bodyPost_ret (v := .agg #[.slice a1 P.length c1, .slice (some ⟨g, 0, none⟩) B.length d1]) (by simp [results, Try.results66, go_sem, g1, g2]) rfl ?_
      rw [HN.out]
      refine ⟨_, rfl, ⟨a1, c1, some ⟨g, 0, none⟩, d1, by rw [wrB_len], ?_, ?_⟩, ?_⟩
      · exact ownsRow_base (ownsRow_setCell_below (ownsRow_setCell_below HO1.out (by show w.heap.size + 1 < _; omega) _) (by show w.heap.size + 1 < _; omega) _) (by omega)
      · rw [wrB_len]
        exact ownsRow_base (ownsRow_setCell_below (ownsRow_setCell_below HO2.out (by show w.heap.size + 1 < _; omega) _) (by show w.heap.size + 1 < _; omega) _) (by omega)
      · exact (hK.setCell (by show _ ≤ w.heap.size + 1; omega) _).setCell (by show _ ≤ w.heap.size + 1; omega) _
end Go.Proofs.Ytdbcbmdekdfdoaa
