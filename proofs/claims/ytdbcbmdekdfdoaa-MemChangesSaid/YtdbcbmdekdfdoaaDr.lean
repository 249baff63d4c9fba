/- WHAT IS PROVED: the reference's Diff of layer 3, for any two spaces, and SameChanges of equal lists. CONDITIONS: the slices' cells hold the lists. -/
import Derived.Test.YtdbcbmdekdfdoaaDf
import Derived.Test.YtdbcbmdekdfdoaaRg
import Derived.Test.YtdbcbmdekdfdoaaR3
import Derived.Deep.RegionHeldLaw
import Derived.Deep.QuietTactic
import Derived.BigQuiet
namespace Go.Proofs.Ytdbcbmdekdfdoaa
open Go Go.RowKit Go.QrBits Go.QrMem
/-- What the reference's Diff hands back. -/
def RDfPost (cs : List Value) (n : Nat) (er : Int) (w : World) (e : Ending) (w' : World) : Prop :=
  ∃ (a : Option Addr) (c : Nat), e = .returned (.agg #[.slice a n c, .int .i64 er]) ∧ SlV a n c ∧ SlAt w' a cs ∧ Below w.heap.size w w'
set_option linter.unusedSimpArgs false in
set_option linter.unusedVariables false in
set_option maxHeartbeats 4000000 in
set_option maxRecDepth 100000 in
theorem rdiff_y (a : Option Addr) (c : Nat) (a2 : Option Addr) (c2 : Nat) (P B : List Int) (a' : Option Addr) (c' : Nat) (a2' : Option Addr) (c2' : Nat) (B' : List Int) (w : World) (hs : SpIn w a c a2 c2 P B) (hs' : SpIn w a' c' a2' c2' P B') (hck : chk P B.length = true) (hck' : chk P B'.length = true) (hBB : B.length = B'.length) :
    Calls Try.prog 40 #[.agg #[.slice a P.length c, .slice a2 B.length c2], .agg #[.slice a' P.length c', .slice a2' B'.length c2']] w (RDfPost (dC B B' (dI B B' B.length)) (dI B B' B.length).length 0 w) := by
  have HS := Lib.hid hs
  have HS' := Lib.hid hs'
  have HC := Lib.hid hck
  have HC' := Lib.hid hck'
  have HBB := Lib.hid hBB
  clear hs hs' hck hck' hBB
  have HK := (((Kw.start w).box (vs := [.slice a P.length c, .slice a2 B.length c2]) (t := 25)).box (vs := [.slice a' P.length c', .slice a2' B'.length c2']) (t := 25)).box (vs := [.slice none 0 0, .int .i64 0]) (t := 82)
  simp only [World.size_alloc] at HK
  go_enter Try.func40, Try.ntmps40
  go_wp2_with fail
  refine (rspace_y _ _ _ _ _ _ _ (HS.out.below HK.base) HC.out).mono ?_
  rintro e w1 ⟨rfl, hq⟩
  replace HK := HK.below hq
  clear hq
  have b_0 := HK.get 1 0 rfl rfl
  have b_1 := HK.get 1 1 rfl rfl
  go_wp2_with fail
  clear b_0 b_1
  refine (rspace_y _ _ _ _ _ _ _ (HS'.out.below HK.base) HC'.out).mono ?_
  rintro e w2 ⟨rfl, hq⟩
  replace HK := HK.below hq
  clear hq
  have b_0 := HK.get 1 0 rfl rfl
  have b_1 := HK.get 1 1 rfl rfl
  have a_0 := HK.get 2 0 rfl rfl
  have a_1 := HK.get 2 1 rfl rfl
  go_wp2_with fail
  clear b_0 b_1 a_0 a_1
  have hE : Calls Try.prog 52 #[.agg #[.slice a P.length c, .slice a2 B.length c2], .agg #[.slice a' P.length c', .slice a2' B'.length c2']] w2 fun e w' => e = .returned (.bool true) ∧ Below w2.heap.size w2 w' := by
    have := samePerm_c a c a2 B.length c2 a' c' a2' B'.length c2' P P w2 HS.out.v1 HS'.out.v1 (HS.out.below HK.base).s1 (HS'.out.below HK.base).s1
    simpa using this
  refine hE.mono ?_
  clear hE
  rintro e w3 ⟨rfl, hq⟩
  replace HK := HK.below hq
  clear hq
  have hl2 := HS.out.v2.max
  unfold maxLen at hl2
  have hl4 := (chk_le HC.out).2
  go_wp2_with fail
  go_loopw [5, 6] (fun v i wr => ∃ (k : Nat) (w5 : World), w5 = wr ∧ k ≤ B.length ∧ i = .int .i64 k ∧ w5.ownsRow (w.heap.size + 3) 89 3 v (dI B B' k).length (dC B B' (dI B B' k)) ∧ Kw [(w.heap.size + 2, [.slice none 0 0, .int .i64 0], 82), (w.heap.size + 1, [.slice a' P.length c', .slice a2' B'.length c2'], 25), (w.heap.size, [.slice a P.length c, .slice a2 B.length c2], 25)] w w5) (fun _ i _ => B.length - (intOf i).toNat)
  case atStart => exact ⟨0, _, rfl, Nat.zero_le _, rfl, World.ownsRow_nil _ _ _ _, HK⟩
  case round =>
    clear HK
    obtain ⟨k, w5, hw, hk, rfl, ho, HK⟩ := hrel
    subst hw
    have HO := Lib.hid ho
    clear ho
    have r_0 := HK.get 0 0 rfl rfl
    have r_1 := HK.get 0 1 rfl rfl
    have b_1 := HK.get 1 1 rfl rfl
    have a_1 := HK.get 2 1 rfl rfl
    have r_s := HK.lt 0 rfl
    have hsz := HK.size
    by_cases hlt : k < B.length
    · have hlt' : k < B'.length := by rw [← HBB.out]; exact hlt
      have hdl : (dI B B' k).length ≤ k := dI_le B B' k
      obtain ⟨b, off, rfl, hbw, _⟩ := HS.out.shape2 hlt
      obtain ⟨b', off', rfl, hbw', _⟩ := HS'.out.shape2 hlt'
      have hcell := (HS.out.below HK.base).byte hlt
      have hcell' := (HS'.out.below HK.base).byte hlt'
      have hbl : b < w5.heap.size := by omega
      have hbl' : b' < w5.heap.size := by omega
      have k0 : (0 : Int) ≤ (k : Int) := Int.natCast_nonneg _
      have k1 : (k : Int) < (B.length : Int) := by omega
      have k2 : (k : Int) < (B'.length : Int) := by omega
      have hdc : dC B B' (dI B B' k ++ [k]) = dC B B' (dI B B' k) ++ [.int .i64 (k : Int), .int .u8 (B[k]?.getD 0), .int .u8 (B'[k]?.getD 0)] := by simp [dC]
      have hdI : dI B B' (k + 1) = if chg B B' k then dI B B' k ++ [k] else dI B B' k := by rw [dI]; split <;> simp
      by_cases hc : chg B B' k = true
      · have hc1 : (B[k]?.getD 0 != B'[k]?.getD 0) = true := by have : (B'[k]?.getD 0 != B[k]?.getD 0) = true := hc; rw [bne_comm]; exact this
        rw [if_pos hc] at hdI
        rw [← hdI] at hdc
        have HD := Lib.hid hdI
        clear hdI hc
        generalize B'[k]?.getD 0 = y at hc1 hcell' hdc ⊢
        generalize B[k]?.getD 0 = x at hc1 hcell hdc ⊢
        have HDC := Lib.hid hdc
        clear hdc
        have HKh := Lib.hid HK
        clear HK
        go_wp2_with fail
        go_quiet (fail)
        go_wp2_with fail
        have hq : Below w5.heap.size w5 (w5.drewN nq) := ⟨rfl, rfl, rfl, Nat.le_refl _, fun _ _ => rfl⟩
        have hO6 := ownsRow_below HO.out hq
        have hK6 := HKh.out.below hq
        obtain ⟨hcz, _⟩ := bcell hq
        replace hcell := (hcz b (off + k) hbl).trans hcell
        replace hcell' := (hcz b' (off' + k) hbl').trans hcell'
        clear hcz a_1 b_1 r_0 r_1 r_s hbl hbl'
        generalize w5.drewN nq = w6 at *
        clear hq
        have a_1 := hK6.get 2 1 rfl rfl
        have b_1 := hK6.get 1 1 rfl rfl
        have a_s := hK6.lt 2 rfl
        have b_s := hK6.lt 1 rfl
        have r_s := hK6.lt 0 rfl
        have hbl : b < w6.heap.size := by omega
        have hbl' : b' < w6.heap.size := by omega
        have hob : ∀ q, u5.ownBlock = some q → w.heap.size + 3 ≤ q ∧ q < w6.heap.size := fun q hq => own_block hO6 q hq
        have hnb : ∀ q, q < w.heap.size + 3 → some q ≠ u5.ownBlock := fun q hq e => by have := hob q e.symm; omega
        have N1 := Lib.hid (hnb w.heap.size (by omega))
        have N2 := Lib.hid (hnb (w.heap.size + 1) (by omega))
        have N3 := Lib.hid (hnb b (by omega))
        have N4 := Lib.hid (hnb b' (by omega))
        have HNB := Lib.hid hnb
        have HOB := Lib.hid hob
        have HO6 := Lib.hid hO6
        have HK6 := Lib.hid hK6
        clear hnb hob hO6 hK6 HO HKh
        obtain ⟨i0, hi, hz0', hz1, hz2⟩ := info_parts Try.info89
        have hnew := World.news_of_block (w := (w6.alloc (.cells #[.int .i64 (k : Int), .int .u8 x, .int .u8 y] 89)).drew) (heap_alloc_new w6 (.cells #[.int .i64 (k : Int), .int .u8 x, .int .u8 y] 89))
        have HNEW := Lib.hid hnew
        clear hnew
        go_region_held_law (fun W => W.cell? ⟨w.heap.size, 1, none⟩ = some (.slice (some ⟨b, off, none⟩) B.length c2) ∧ W.cell? ⟨w.heap.size + 1, 1, none⟩ = some (.slice (some ⟨b', off', none⟩) B'.length c2') ∧ W.cell? ⟨b, off + k, none⟩ = some (.int .u8 x) ∧ W.cell? ⟨b', off' + k, none⟩ = some (.int .u8 y)) (first | go_keep | (go_split_ands; refine ⟨(hgrow.cell_far _ (by simp; omega) N1.out).trans ?_, (hgrow.cell_far _ (by simp; omega) N2.out).trans ?_, (hgrow.cell_far _ (by simp; omega) N3.out).trans ?_, (hgrow.cell_far _ (by simp; omega) N4.out).trans ?_⟩ <;> assumption)) ((refine step_append_lies _ (by rfl) _ _ 78 (by rfl) (w.heap.size + 3) 89 i0 (.agg #[.int .i64 0, .int .u8 0, .int .u8 0]) 3 16 Try.underlying78 hi hz0' hz1 hz2 rfl (by decide) u5 (dI B B' k).length (dC B B' (dI B B' k)) (by rfl) (HO6.out.alloc _).drew ⟨w6.heap.size, 0, none⟩ 1 1 [.int .i64 (k : Int), .int .u8 x, .int .u8 y] (by rfl) (by rfl) HNEW.out (by intro u hu; simp only [List.mem_cons, List.not_mem_nil, or_false] at hu; rcases hu with rfl | rfl | rfl <;> rfl) (by omega) (by unfold maxLen; omega) (by omega) (by simp; omega) _ rfl ?_; intro g cap w7 hown7 hgrow hat hlt7))
        go_wp2
        go_roundw
        case rel =>
          refine ⟨k + 1, _, rfl, by omega, by go_num, ?_, HK6.out.alloc.drew.grown hgrow (fun q hq => ?_)⟩
          · rw [HDC.out, HD.out, List.length_append]; exact hown7
          · have := HOB.out q hq
            refine ⟨by omega, fun f hf => ?_⟩
            simp only [List.mem_cons, List.not_mem_nil, or_false] at hf
            rcases hf with rfl | rfl | rfl <;> (dsimp only; omega)
        case measure => simp [intOf]; omega
      · have hc' : chg B B' k = false := by simpa using hc
        have hc1 : (B[k]?.getD 0 != B'[k]?.getD 0) = false := by have : (B'[k]?.getD 0 != B[k]?.getD 0) = false := hc'; rw [bne_comm]; exact this
        rw [if_neg hc] at hdI
        have HD := Lib.hid hdI
        clear hdI hc hdc hc'
        generalize B'[k]?.getD 0 = y at hc1 hcell' ⊢
        generalize B[k]?.getD 0 = x at hc1 hcell ⊢
        have HKh := Lib.hid HK
        clear HK
        go_wp2_with fail
        go_quiet (fail)
        have hq : Below w5.heap.size w5 (w5.drewN nq) := ⟨rfl, rfl, rfl, Nat.le_refl _, fun _ _ => rfl⟩
        go_wp2
        go_roundw
        case rel => exact ⟨k + 1, _, rfl, by omega, by go_num, by rw [HD.out]; exact ownsRow_below HO.out hq, HKh.out.below hq⟩
        case measure => simp [intOf]; omega
    · have hkn : k = B.length := by omega
      have HN := Lib.hid hkn
      clear hkn
      have HKh := Lib.hid HK
      clear HK
      obtain ⟨ao, co, hv⟩ := own_slice HO.out
      subst hv
      have r_f0 := HKh.out.fz 0 0 rfl
      have r_f1 := HKh.out.fz 0 1 rfl
      go_wp2_with fail
      obtain ⟨g1, g2⟩ := put2 (.slice ao (dI B B' k).length co) (.int .i64 0) r_0 r_1
      have ho := ownsRow_setCell_below (a := ⟨w.heap.size + 1 + 1, 1, none⟩) (ownsRow_setCell_below (a := ⟨w.heap.size + 1 + 1, 0, none⟩) HO.out (by show w.heap.size + 1 + 1 < _; omega) (.slice ao (dI B B' k).length co)) (by show w.heap.size + 1 + 1 < _; omega) (.int .i64 0)
      refine bodyPost_ret (v := .agg #[.slice ao (dI B B' k).length co, .int .i64 0]) (by simp [results, Try.results40, go_sem, g1, g2, r_s]) rfl ⟨ao, co, by rw [HN.out], by rw [← HN.out]; exact slV_own ho, by rw [← HN.out]; exact SlAt.own3 ho, ?_⟩
      exact (HKh.out.base.setCell (by show _ ≤ w.heap.size + 1 + 1; omega) _).setCell (by show _ ≤ w.heap.size + 1 + 1; omega) _
set_option linter.unusedSimpArgs false in
set_option linter.unusedVariables false in
set_option maxHeartbeats 4000000 in
set_option maxRecDepth 100000 in
theorem rdiff_n (a : Option Addr) (c : Nat) (a2 : Option Addr) (c2 : Nat) (P B : List Int) (a' : Option Addr) (c' : Nat) (a2' : Option Addr) (c2' : Nat) (P' B' : List Int) (w : World) (hs : SpIn w a c a2 c2 P B) (hs' : SpIn w a' c' a2' c2' P' B') (hck : chk P B.length = false) :
    Calls Try.prog 40 #[.agg #[.slice a P.length c, .slice a2 B.length c2], .agg #[.slice a' P'.length c', .slice a2' B'.length c2']] w (RDfPost [] 0 30 w) := by
  have HS := Lib.hid hs
  have HS' := Lib.hid hs'
  have HC := Lib.hid hck
  clear hs hs' hck
  have HK := (((Kw.start w).box (vs := [.slice a P.length c, .slice a2 B.length c2]) (t := 25)).box (vs := [.slice a' P'.length c', .slice a2' B'.length c2']) (t := 25)).box (vs := [.slice none 0 0, .int .i64 0]) (t := 82)
  simp only [World.size_alloc] at HK
  go_enter Try.func40, Try.ntmps40
  go_wp2_with fail
  refine (rspace_n _ _ _ _ _ _ _ (HS.out.below HK.base) HC.out).mono ?_
  rintro e w1 ⟨rfl, hq⟩
  replace HK := HK.below hq
  clear hq
  have r_0 := HK.get 0 0 rfl rfl
  have r_1 := HK.get 0 1 rfl rfl
  have r_f0 := HK.fz 0 0 rfl
  have r_f1 := HK.fz 0 1 rfl
  have r_s := HK.lt 0 rfl
  have hK := HK.base
  clear HK
  go_wp2
  obtain ⟨g1, g2⟩ := put2 (.slice none 0 0) (.int .i64 30) r_0 r_1
  refine bodyPost_ret (v := .agg #[.slice none 0 0, .int .i64 30]) (by simp [results, Try.results40, go_sem, g1, g2, r_s]) rfl ⟨none, 0, rfl, ⟨Nat.le_refl _, by unfold maxLen; omega, fun _ => ⟨rfl, rfl⟩⟩, .inl rfl, ?_⟩
  exact (hK.setCell (by show _ ≤ w.heap.size + 1 + 1; omega) _).setCell (by show _ ≤ w.heap.size + 1 + 1; omega) _
set_option linter.unusedSimpArgs false in
set_option linter.unusedVariables false in
set_option maxHeartbeats 4000000 in
set_option maxRecDepth 100000 in
theorem rdiff_n2 (a : Option Addr) (c : Nat) (a2 : Option Addr) (c2 : Nat) (P B : List Int) (a' : Option Addr) (c' : Nat) (a2' : Option Addr) (c2' : Nat) (P' B' : List Int) (w : World) (hs : SpIn w a c a2 c2 P B) (hs' : SpIn w a' c' a2' c2' P' B') (hck : chk P B.length = true) (hck' : chk P' B'.length = false) :
    Calls Try.prog 40 #[.agg #[.slice a P.length c, .slice a2 B.length c2], .agg #[.slice a' P'.length c', .slice a2' B'.length c2']] w (RDfPost [] 0 30 w) := by
  have HS := Lib.hid hs
  have HS' := Lib.hid hs'
  have HC := Lib.hid hck
  clear hs hs' hck
  have HC' := Lib.hid hck'
  clear hck'
  have HK := (((Kw.start w).box (vs := [.slice a P.length c, .slice a2 B.length c2]) (t := 25)).box (vs := [.slice a' P'.length c', .slice a2' B'.length c2']) (t := 25)).box (vs := [.slice none 0 0, .int .i64 0]) (t := 82)
  simp only [World.size_alloc] at HK
  go_enter Try.func40, Try.ntmps40
  go_wp2_with fail
  refine (rspace_y _ _ _ _ _ _ _ (HS.out.below HK.base) HC.out).mono ?_
  rintro e w1 ⟨rfl, hq⟩
  replace HK := HK.below hq
  clear hq
  have b_0 := HK.get 1 0 rfl rfl
  have b_1 := HK.get 1 1 rfl rfl
  go_wp2_with fail
  clear b_0 b_1
  refine (rspace_n _ _ _ _ _ _ _ (HS'.out.below HK.base) HC'.out).mono ?_
  rintro e w2 ⟨rfl, hq⟩
  replace HK := HK.below hq
  clear hq
  have r_0 := HK.get 0 0 rfl rfl
  have r_1 := HK.get 0 1 rfl rfl
  have r_f0 := HK.fz 0 0 rfl
  have r_f1 := HK.fz 0 1 rfl
  have r_s := HK.lt 0 rfl
  have hK := HK.base
  clear HK
  go_wp2
  obtain ⟨g1, g2⟩ := put2 (.slice none 0 0) (.int .i64 30) r_0 r_1
  refine bodyPost_ret (v := .agg #[.slice none 0 0, .int .i64 30]) (by simp [results, Try.results40, go_sem, g1, g2, r_s]) rfl ⟨none, 0, rfl, ⟨Nat.le_refl _, by unfold maxLen; omega, fun _ => ⟨rfl, rfl⟩⟩, .inl rfl, ?_⟩
  exact (hK.setCell (by show _ ≤ w.heap.size + 1 + 1; omega) _).setCell (by show _ ≤ w.heap.size + 1 + 1; omega) _
set_option linter.unusedSimpArgs false in
set_option linter.unusedVariables false in
set_option maxHeartbeats 4000000 in
set_option maxRecDepth 100000 in
theorem rdiff_p (a : Option Addr) (c : Nat) (a2 : Option Addr) (c2 : Nat) (P B : List Int) (a' : Option Addr) (c' : Nat) (a2' : Option Addr) (c2' : Nat) (P' B' : List Int) (w : World) (hs : SpIn w a c a2 c2 P B) (hs' : SpIn w a' c' a2' c2' P' B') (hck : chk P B.length = true) (hck' : chk P' B'.length = true) (hne : P ≠ P') :
    Calls Try.prog 40 #[.agg #[.slice a P.length c, .slice a2 B.length c2], .agg #[.slice a' P'.length c', .slice a2' B'.length c2']] w (RDfPost [] 0 1 w) := by
  have HS := Lib.hid hs
  have HS' := Lib.hid hs'
  have HC := Lib.hid hck
  clear hs hs' hck
  have HC' := Lib.hid hck'
  clear hck'
  have HN := Lib.hid hne
  clear hne
  have HK := (((Kw.start w).box (vs := [.slice a P.length c, .slice a2 B.length c2]) (t := 25)).box (vs := [.slice a' P'.length c', .slice a2' B'.length c2']) (t := 25)).box (vs := [.slice none 0 0, .int .i64 0]) (t := 82)
  simp only [World.size_alloc] at HK
  go_enter Try.func40, Try.ntmps40
  go_wp2_with fail
  refine (rspace_y _ _ _ _ _ _ _ (HS.out.below HK.base) HC.out).mono ?_
  rintro e w1 ⟨rfl, hq⟩
  replace HK := HK.below hq
  clear hq
  have b_0 := HK.get 1 0 rfl rfl
  have b_1 := HK.get 1 1 rfl rfl
  go_wp2_with fail
  clear b_0 b_1
  refine (rspace_y _ _ _ _ _ _ _ (HS'.out.below HK.base) HC'.out).mono ?_
  rintro e w2 ⟨rfl, hq⟩
  replace HK := HK.below hq
  clear hq
  have b_0 := HK.get 1 0 rfl rfl
  have b_1 := HK.get 1 1 rfl rfl
  have a_0 := HK.get 2 0 rfl rfl
  have a_1 := HK.get 2 1 rfl rfl
  go_wp2_with fail
  clear b_0 b_1 a_0 a_1
  have hE : Calls Try.prog 52 #[.agg #[.slice a P.length c, .slice a2 B.length c2], .agg #[.slice a' P'.length c', .slice a2' B'.length c2']] w2 fun e w' => e = .returned (.bool false) ∧ Below w2.heap.size w2 w' := by
    have := samePerm_c a c a2 B.length c2 a' c' a2' B'.length c2' P P' w2 HS.out.v1 HS'.out.v1 (HS.out.below HK.base).s1 (HS'.out.below HK.base).s1
    rwa [decide_eq_false HN.out] at this
  refine (hE).mono ?_
  rintro e w3 ⟨rfl, hq⟩
  clear hE
  replace HK := HK.below hq
  clear hq
  have r_0 := HK.get 0 0 rfl rfl
  have r_1 := HK.get 0 1 rfl rfl
  have r_f0 := HK.fz 0 0 rfl
  have r_f1 := HK.fz 0 1 rfl
  have r_s := HK.lt 0 rfl
  have hK := HK.base
  clear HK
  go_wp2
  obtain ⟨g1, g2⟩ := put2 (.slice none 0 0) (.int .i64 1) r_0 r_1
  refine bodyPost_ret (v := .agg #[.slice none 0 0, .int .i64 1]) (by simp [results, Try.results40, go_sem, g1, g2, r_s]) rfl ⟨none, 0, rfl, ⟨Nat.le_refl _, by unfold maxLen; omega, fun _ => ⟨rfl, rfl⟩⟩, .inl rfl, ?_⟩
  exact (hK.setCell (by show _ ≤ w.heap.size + 1 + 1; omega) _).setCell (by show _ ≤ w.heap.size + 1 + 1; omega) _
end Go.Proofs.Ytdbcbmdekdfdoaa
