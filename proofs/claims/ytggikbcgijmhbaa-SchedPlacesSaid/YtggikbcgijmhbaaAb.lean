/- WHAT IS PROVED: the law's ready, at a queue that is as it is wanted. -/
import Derived.Test.YtggikbcgijmhbaaAa
set_option linter.unusedSimpArgs false
set_option linter.unusedVariables false
namespace Go.Proofs.Ytggikbcgijmhbaa
open Go Go.RowKit Go.QrBits Go.QrMem
set_option maxHeartbeats 4000000 in
set_option maxRecDepth 100000 in
theorem ready_c (a : Option Addr) (c : Nat) (a2 : Option Addr) (c2 : Nat) (u : Qu) (ts : List Th) (q r : Int) (m n p cp : Nat) (w : World) (hs : ScIn w a c a2 c2 [u] ts) (hr : u.run = r) (hn : u.ready.length = n) (h1 : 0 < n) (h8 : n ≤ 16) (hp : p < w.heap.size) (h0 : ∀ (j : Nat) (x : Int), u.ready[j]? = some x → w.cell? ⟨p, j, none⟩ = some (.int .i64 x)) :
    Calls Try.prog 30 #[.agg #[.slice a 1 c, .slice a2 m c2, .int .i64 q], .int .i64 r, .slice (some ⟨p, 0, none⟩) n cp] w fun y w' => y = .returned (.bool true) ∧ Below w.heap.size w w' := by
  obtain ⟨b, off, rfl, hb, c0, c1, ar, cr, c2x, hv, h5⟩ := hs.qu (k := 0) (x := u) rfl
  rw [hr] at c0
  rw [hn] at c2x
  obtain ⟨br, offr, rfl, hbr, hcr⟩ : ∃ b off : Nat, ar = some ⟨b, off, none⟩ ∧ b < w.heap.size ∧ ∀ (j : Nat) (x_1 : Value), (iV u.ready)[j]? = some x_1 → w.cell? ⟨b, off + j, none⟩ = some x_1 := by
    rcases h5 with h | h
    · simp [iV] at h; rw [h] at hn; simp at hn; omega
    · exact h
  have hget : ∀ k, k < n → ∃ x : Int, w.cell? ⟨br, offr + k, none⟩ = some (.int .i64 x) ∧ w.cell? ⟨p, k, none⟩ = some (.int .i64 x) := by
    intro k hk
    have hl : k < u.ready.length := by omega
    refine ⟨u.ready[k], hcr k _ ?_, h0 k _ (List.getElem?_eq_getElem hl)⟩
    simp [iV, List.getElem?_eq_getElem hl]
  have HG := Lib.hid hget
  clear hcr h5 hs hv hr hn hget h0
  simp only [Nat.zero_mul, Nat.add_zero] at c0 c1 c2x
  have HK := ((Kw.start w).box (vs := [.slice (some ⟨b, off, none⟩) 1 c, .slice a2 m c2, .int .i64 q]) (t := 25))
  have n1 : (0 : Int) < (n : Int) := by omega
  go_enter Try.func30, Try.ntmps30
  go_wp2
  go_loopw [7] (fun i wr => ∃ (k : Nat) (wv : World), wv = wr ∧ k ≤ n ∧ i = .int .i64 k ∧ Kw [(w.heap.size, [.slice (some ⟨b, off, none⟩) 1 c, .slice a2 m c2, .int .i64 q], 25)] w wv) (fun i _ => n - (intOf i).toNat)
  case atStart => exact ⟨0, _, rfl, Nat.zero_le _, rfl, HK⟩
  case round =>
    clear HK
    obtain ⟨k, wv, hw, hk, rfl, HK⟩ := hrel
    subst hw
    have p_0 := HK.get 0 0 rfl rfl
    have e0 := (HK.base.cell (p := ⟨b, off, none⟩) hb).trans c0
    have e2 := (HK.base.cell (p := ⟨b, off + 2, none⟩) hb).trans c2x
    by_cases hlt : k < n
    · obtain ⟨x, g1, g2⟩ := HG.out k hlt
      have e3 := (HK.base.cell (p := ⟨br, offr + k, none⟩) hbr).trans g1
      have e4 := (HK.base.cell (p := ⟨p, k, none⟩) hp).trans g2
      have k0 : (0 : Int) ≤ (k : Int) := Int.natCast_nonneg _
      have k1 : (k : Int) < (n : Int) := by omega
      clear hlt g1 g2
      go_wp2
      go_region
      go_wp2
      go_roundw
      case rel => exact ⟨k + 1, _, rfl, by omega, by go_num, by first | exact HK | exact HK.below ((Below.refl _ _).drew) | exact HK.below (below_drewN (Below.refl _ _) _)⟩
      case measure => simp [intOf]; omega
    · have hkn : k = n := by omega
      subst hkn
      have hK := HK.base
      clear HK hlt
      go_wp2
      go_ret
      exact ⟨rfl, hK⟩
end Go.Proofs.Ytggikbcgijmhbaa
