/- WHAT IS PROVED: taplinelaw03.MemDiffs walked: mem.Diff answers what the reference's Diff answers, for any two spaces. CONDITIONS: none. -/
import Derived.Test.YtdbcbmdekdfdoaaDr
import Derived.Test.YtdbcbmdekdfdoaaSa
namespace Go.Proofs.Ytdbcbmdekdfdoaa
open Go Go.RowKit Go.QrBits Go.QrMem
theorem dC_get (A B : List Int) : ∀ (l : List Nat) (k : Nat) (i : Nat), l[k]? = some i → (dC A B l)[k * 3]? = some (.int .i64 (i : Int)) ∧ (dC A B l)[k * 3 + 1]? = some (.int .u8 (A[i]?.getD 0)) ∧ (dC A B l)[k * 3 + 2]? = some (.int .u8 (B[i]?.getD 0))
  | [], k, i, h => by simp at h
  | x :: l, 0, i, h => by
    simp at h; subst h
    simp [dC]
  | x :: l, k + 1, i, h => by
    have := dC_get A B l k i (by simpa using h)
    have e : dC A B (x :: l) = .int .i64 (x : Int) :: .int .u8 (A[x]?.getD 0) :: .int .u8 (B[x]?.getD 0) :: dC A B l := by simp [dC]
    rw [e, show (k + 1) * 3 = k * 3 + 3 by omega]
    simpa using this
theorem slAt_get {w : World} {a : Option Addr} {xs : List Value} {j : Nat} {v : Value} (h : SlAt w a xs) (hj : xs[j]? = some v) : ∃ b off, a = some ⟨b, off, none⟩ ∧ b < w.heap.size ∧ ∀ (j : Nat) (x : Value), xs[j]? = some x → w.cell? ⟨b, off + j, none⟩ = some x := by
  rcases h with rfl | h
  · simp at hj
  · exact h
set_option linter.unusedSimpArgs false in
set_option linter.unusedVariables false in
set_option maxHeartbeats 4000000 in
set_option maxRecDepth 100000 in
theorem schanges_y (a : Option Addr) (c : Nat) (a' : Option Addr) (c' : Nat) (A B : List Int) (l : List Nat) (w : World) (hl : l.length ≤ 4096) (v : SlV a l.length c) (v' : SlV a' l.length c') (hs : SlAt w a (dC A B l)) (hs' : SlAt w a' (dC A B l)) :
    Calls Try.prog 41 #[.slice a l.length c, .slice a' l.length c'] w fun e w' => e = .returned (.bool true) ∧ Below w.heap.size w w' := by
  have HS := Lib.hid hs
  have HS' := Lib.hid hs'
  have HV := Lib.hid v
  have HV' := Lib.hid v'
  clear hs hs' v v'
  go_enter Try.func41, Try.ntmps41
  go_wp2_with fail
  go_loopw [5] (fun i wr => ∃ (k : Nat) (w5 : World), w5 = wr ∧ k ≤ l.length ∧ i = .int .i64 k ∧ Below w.heap.size w w5) (fun i _ => l.length - (intOf i).toNat)
  case atStart => exact ⟨0, _, rfl, Nat.zero_le _, rfl, Below.refl _ _⟩
  case round =>
    obtain ⟨k, w5, hw, hk, rfl, hb⟩ := hrel
    subst hw
    have HB := Lib.hid hb
    clear hb
    by_cases hlt : k < l.length
    · obtain ⟨g1, g2, g3⟩ := dC_get A B l k _ (List.getElem?_eq_getElem hlt)
      obtain ⟨b, off, rfl, hbl, hc⟩ := slAt_get (HS.out.below HB.out) g1
      obtain ⟨b', off', rfl, hbl', hc'⟩ := slAt_get (HS'.out.below HB.out) g1
      have c0 := hc _ _ g1
      have c1 := hc _ _ g2
      rw [← Nat.add_assoc] at c1
      have c2 := hc _ _ g3
      rw [← Nat.add_assoc] at c2
      have d0 := hc' _ _ g1
      have d1 := hc' _ _ g2
      rw [← Nat.add_assoc] at d1
      have d2 := hc' _ _ g3
      rw [← Nat.add_assoc] at d2
      have k0 : (0 : Int) ≤ (k : Int) := Int.natCast_nonneg _
      have k1 : (k : Int) < (l.length : Int) := by omega
      clear g1 g2 g3 hc hc'
      go_wp2_with fail
      go_quiet (fail)
      have hq : Below w5.heap.size w5 (w5.drewN nq) := ⟨rfl, rfl, rfl, Nat.le_refl _, fun _ _ => rfl⟩
      go_wp2
      go_roundw
      case rel => exact ⟨k + 1, _, rfl, by omega, by go_num, Below.tail HB.out hq⟩
      case measure => simp [intOf]; omega
    · go_wp2
      go_ret
      exact ⟨rfl, HB.out⟩
section
variable (a : Option Addr) (c : Nat) (a2 : Option Addr) (c2 : Nat) (P B : List Int) (a' : Option Addr) (c' : Nat) (a2' : Option Addr) (c2' : Nat) (P' B' : List Int)
/-- What Diff answers. -/
def DfG (cs : List Value) (n : Nat) (er : Int) : Prop := ∀ w, SpIn w a c a2 c2 P B → SpIn w a' c' a2' c2' P' B' → Calls Try.prog 39 #[.agg #[.slice a P.length c, .slice a2 B.length c2], .agg #[.slice a' P'.length c', .slice a2' B'.length c2']] w (DfPost cs n er w)
/-- What the reference's Diff answers. -/
def RDfG (cs : List Value) (n : Nat) (er : Int) : Prop := ∀ w, SpIn w a c a2 c2 P B → SpIn w a' c' a2' c2' P' B' → Calls Try.prog 40 #[.agg #[.slice a P.length c, .slice a2 B.length c2], .agg #[.slice a' P'.length c', .slice a2' B'.length c2']] w (RDfPost cs n er w)
end
/-- What SameChanges answers. -/
def ScG (cs : List Value) (n : Nat) : Prop := ∀ (a : Option Addr) (c : Nat) (a' : Option Addr) (c' : Nat) (w : World), SlV a n c → SlV a' n c' → SlAt w a cs → SlAt w a' cs → Calls Try.prog 41 #[.slice a n c, .slice a' n c'] w fun e w' => e = .returned (.bool true) ∧ Below w.heap.size w w'
set_option linter.unusedSimpArgs false in
set_option linter.unusedVariables false in
set_option maxHeartbeats 4000000 in
set_option maxRecDepth 100000 in
theorem md_walk (a : Option Addr) (c : Nat) (a2 : Option Addr) (c2 : Nat) (P B : List Int) (a' : Option Addr) (c' : Nat) (a2' : Option Addr) (c2' : Nat) (P' B' : List Int) (w : World) (hS : SpIn w a c a2 c2 P B) (hS' : SpIn w a' c' a2' c2' P' B') (cs : List Value) (n : Nat) (er : Int) (hD : DfG a c a2 c2 P B a' c' a2' c2' P' B' cs n er) (hR : RDfG a c a2 c2 P B a' c' a2' c2' P' B' cs n er) (hE : ScG cs n) :
    Calls Try.prog 6 #[.agg #[.slice a P.length c, .slice a2 B.length c2], .agg #[.slice a' P'.length c', .slice a2' B'.length c2']] w fun e w' => e = .returned (.bool true) ∧ Below w.heap.size w w' := by
  have HS := Lib.hid hS
  have HS' := Lib.hid hS'
  clear hS hS'
  have HK := ((Kw.start w).box (vs := [.slice a P.length c, .slice a2 B.length c2]) (t := 25)).box (vs := [.slice a' P'.length c', .slice a2' B'.length c2']) (t := 25)
  simp only [World.size_alloc] at HK
  go_enter Try.func6, Try.ntmps6
  go_wp2_with fail
  refine (sane_c _).mono ?_
  rintro e w1 ⟨rfl, hq⟩
  replace HK := HK.below hq
  clear hq
  have b_0 := HK.get 0 0 rfl rfl
  have b_1 := HK.get 0 1 rfl rfl
  have a_0 := HK.get 1 0 rfl rfl
  have a_1 := HK.get 1 1 rfl rfl
  go_wp2_with fail
  clear b_0 b_1 a_0 a_1
  refine (hD _ (HS.out.below HK.base) (HS'.out.below HK.base)).mono ?_
  rintro e w2 ⟨al, cl, rfl, hv, hs, hq⟩
  replace HK := HK.below hq
  clear hq
  have HV := Lib.hid hv
  have HL := Lib.hid hs
  clear hv hs
  have b_0 := HK.get 0 0 rfl rfl
  have b_1 := HK.get 0 1 rfl rfl
  have a_0 := HK.get 1 0 rfl rfl
  have a_1 := HK.get 1 1 rfl rfl
  go_wp2_with fail
  clear b_0 b_1 a_0 a_1
  refine (hR _ (HS.out.below HK.base) (HS'.out.below HK.base)).mono ?_
  rintro e w3 ⟨ar, cr, rfl, hv', hs', hq⟩
  replace HK := HK.below hq
  have HLb := Lib.hid (HL.out.below hq)
  clear hq HL
  have HV' := Lib.hid hv'
  have HL' := Lib.hid hs'
  clear hv' hs'
  replace HK := HK.box (vs := [.slice ar n cr, .int .i64 er]) (t := 82)
  have HKh := Lib.hid HK
  clear HK
  go_wp2_with fail
  have hbb : Below w3.heap.size w3 (w3.alloc (.cells #[.slice ar n cr, .int .i64 er] 82)) := b_alloc (Below.refl _ _)
  refine (hE al cl ar cr _ HV.out HV'.out (HLb.out.below hbb) (HL'.out.below hbb)).mono ?_
  rintro e w4 ⟨rfl, hq⟩
  have hfin := (HKh.out.below hq).base
  clear hq hbb
  go_wp2
  go_ret
  exact ⟨rfl, hfin⟩
theorem memDiffs_walk (a : Option Addr) (c : Nat) (a2 : Option Addr) (c2 : Nat) (P B : List Int) (a' : Option Addr) (c' : Nat) (a2' : Option Addr) (c2' : Nat) (P' B' : List Int) (w : World) (hS : SpIn w a c a2 c2 P B) (hS' : SpIn w a' c' a2' c2' P' B') :
    Calls Try.prog 6 #[.agg #[.slice a P.length c, .slice a2 B.length c2], .agg #[.slice a' P'.length c', .slice a2' B'.length c2']] w fun e w' => e = .returned (.bool true) ∧ Below w.heap.size w w' := by
  have h0 : ScG [] 0 := fun b d b' d' W h1 h2 h3 h4 => schanges_y b d b' d' [] [] [] W (Nat.zero_le _) h1 h2 h3 h4
  cases h1 : chk P B.length with
  | false => exact md_walk a c a2 c2 P B a' c' a2' c2' P' B' w hS hS' [] 0 30 (fun w hs hs' => diff_n _ _ _ _ _ _ _ _ _ _ _ _ w hs hs' h1) (fun w hs hs' => rdiff_n _ _ _ _ _ _ _ _ _ _ _ _ w hs hs' h1) h0
  | true =>
  cases h2 : chk P' B'.length with
  | false => exact md_walk a c a2 c2 P B a' c' a2' c2' P' B' w hS hS' [] 0 30 (fun w hs hs' => diff_n2 _ _ _ _ _ _ _ _ _ _ _ _ w hs hs' h1 h2) (fun w hs hs' => rdiff_n2 _ _ _ _ _ _ _ _ _ _ _ _ w hs hs' h1 h2) h0
  | true =>
  by_cases hP : P = P'
  · subst hP
    have hBB : B.length = B'.length := by have := (chk_len4 h1).2; have := (chk_len4 h2).2; omega
    have hl := (chk_le h1).2
    exact md_walk a c a2 c2 P B a' c' a2' c2' P B' w hS hS' _ _ 0 (fun w hs hs' => diff_y _ _ _ _ _ _ _ _ _ _ _ w hs hs' h1 h2 hBB) (fun w hs hs' => rdiff_y _ _ _ _ _ _ _ _ _ _ _ w hs hs' h1 h2 hBB)
      (fun b d b' d' W g1 g2 g3 g4 => schanges_y b d b' d' B B' _ W (by have := dI_le B B' B.length; omega) g1 g2 g3 g4)
  · exact md_walk a c a2 c2 P B a' c' a2' c2' P' B' w hS hS' [] 0 1 (fun w hs hs' => diff_p _ _ _ _ _ _ _ _ _ _ _ _ w hs hs' h1 h2 hP) (fun w hs hs' => rdiff_p _ _ _ _ _ _ _ _ _ _ _ _ w hs hs' h1 h2 hP) h0
end Go.Proofs.Ytdbcbmdekdfdoaa
