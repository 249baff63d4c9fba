/- WHAT IS PROVED: the reference's Bytes, on valid sizes. CONDITIONS: a value is an int64. -/
import Derived.Test.YtfgmfkiknogdeaaDoorOp1
import Derived.Test.YtfgmfkiknogdeaaDoorOp3
import Derived.Test.YtfgmfkiknogdeaaDoorBz
import Derived.Test.YtfgmfkiknogdeaaDoorKn
namespace Go.Proofs.YtfgmfkiknogdeaaDoor
open Go Go.RowKit Go.QrBits
attribute [local go_sem] reg_cell reg_frozen reg_setCell reg_lt reg_lt_add reg_drew reg_of_drew

theorem known_grown {fs : List (Nat × List Value)} {w0 w w1 : World} {o : Obj} {row : Option Nat} (h : Known fs w0 w) (hg : (w.alloc o).grownBy w1 row) (hr : ∀ b, row = some b → w0.heap.size ≤ b ∧ ∀ f ∈ fs, f.1 ≠ b) : Known fs w0 w1 := by
  have hs : w.heap.size ≤ w1.heap.size := by have := hg.size; rw [World.size_alloc] at this; omega
  have hb : ∀ k, k < w.heap.size → some k ≠ row → w1.heap[k]? = w.heap[k]? := fun k hk hne => by
    rw [hg.block k (by rw [World.size_alloc]; omega) hne]; exact Below.heap_alloc _ _ _ hk
  refine ⟨⟨hg.os.trans h.base.os, hg.tape.trans h.base.tape, hg.output.trans h.base.output, Nat.le_trans h.base.size hs, fun k hk => ?_⟩, fun f hf => Nat.lt_of_lt_of_le (h.size f hf) hs, fun f hf j v hv => ?_⟩
  · have h1 := h.base.size
    rw [hb k (by omega) (fun e => by have := (hr k e.symm).1; omega)]
    exact h.base.block k hk
  · rw [World.cell?_of_block (w := w) (a := ⟨f.1, j, none⟩) (hb f.1 (h.size f hf) (fun e => (hr f.1 e.symm).2 f hf rfl))]
    exact h.cell f hf j v hv
theorem and_255 (x : Int) : bits .and .i64 x 255 = x % 256 := by
  refine I64_eq (bits_I64 _ _ _) (by unfold I64; omega) ?_
  rw [and_mod (by omega)]
  have e : rs 64 255 = 255 := rfl
  have h3 : rs 64 x % 2 ^ 8 = rs 8 x := rs_mod (k := 8) (m := 64) (by omega) x
  rw [e, nat_mask8]
  have h4 : rs 64 x % 256 = rs 8 x := h3
  rw [h4, rs_cast]
  show x % 256 = x % 256 % 18446744073709551616
  omega
theorem byte_step {x : Int} (hx : I64 x) : wrap64 ((wrap64 (x - bits .and .i64 x 255)).tdiv 256) = x / 256 := by
  rw [and_255]
  unfold I64 at hx
  have e : wrap64 (x - x % 256) = x - x % 256 := w64_in (by unfold I64; omega)
  rw [e]
  have h2 : x - x % 256 = 256 * (x / 256) := by omega
  rw [h2, Int.mul_tdiv_cancel_left _ (by omega)]
  exact w64_in (by unfold I64; omega)
set_option maxHeartbeats 4000000 in
set_option maxRecDepth 100000 in
theorem rbytes_c (n : Nat) (g : Bool) (v : Int) (w : World) (h : vB n = true) (hv : I64 v) : Calls Tryd.prog 33 #[.agg #[.int .i64 n, .bool g], .int .i64 v] w fun e w' => ∃ (B cap : Nat), e = .returned (.tuple #[.slice (some ⟨B, 0, none⟩) n cap, .int .i64 0]) ∧ w'.ownsRow w.heap.size 5 1 (.slice (some ⟨B, 0, none⟩) n cap) n (bV (byL n v)) ∧ Below w.heap.size w w' := by
  obtain ⟨i0, hi, hz0, hz1, hz2⟩ := info_parts info5
  have hn8 : n ≤ 8 ∧ 1 ≤ n := by rcases size_cases h with e | e | e | e <;> omega
  obtain ⟨hn8, hn1⟩ := hn8
  have HK := Known.start w
  go_enter Tryd.func33, Tryd.ntmps33
  go_wp2_with (go_at_call 25; refine (rCheck_c _ _ _ h).mono ?_; rintro e w1 ⟨rfl, hq⟩)
  replace HK := HK.box (vs := [.int .i64 n, .bool g]) (t := 23)
  replace HK := HK.below hq
  clear hq
  go_loopw [1, 7, 8] (fun v1 v7 v8 wr => ∃ (k : Nat) (u : Int) (xs : List Int) (w5 : World), w5 = wr ∧ k ≤ n ∧ v8 = .int .i64 k ∧ v1 = .int .i64 u ∧ Hid (I64 u) ∧ Hid (xs ++ byL (n - k) u = byL n v ∧ xs.length = k) ∧ Hid (w5.ownsRow (w.heap.size + 1) 5 1 v7 k (bV xs)) ∧ Known [(w.heap.size, [.int .i64 n, .bool g])] w w5) (fun _ _ v8 _ => n - (intOf v8).toNat)
  case atStart => exact ⟨0, v, [], _, rfl, by omega, rfl, rfl, hv, ⟨by simp, rfl⟩, ⟨rfl, .inl ⟨rfl, rfl⟩⟩, HK⟩
  case round =>
  clear HK hv
  obtain ⟨k, u, xs, w5, hw5, hk, hv8, hv1, hu, hx, hown, HK⟩ := hrel
  subst hw5; subst hv8; subst hv1
  have A0 := HK.get 0 0 rfl rfl
  have A1 := HK.get 0 1 rfl rfl
  have As := HK.lt 0 rfl
  by_cases hlt : (k : Int) < n
  · have hlt' : k < n := by omega
    have e255 := and_255 u
    have HU := Lib.hid (byte_step hu.out)
    rw [and_255] at HU
    go_wp2_with (at_builtin; refine wpList_append_own_at _ rfl _ _ 48 rfl (w.heap.size + 1) 5 i0 (.int .u8 0) 1 1 Tryd.underlying48 hi hz0 hz1 hz2 rfl (by decide) _ _ _ rfl (hown.out.alloc _) ⟨w5.heap.size, 0, none⟩ 1 1 [.int .u8 (u % 256)] rfl rfl ?c1 ?c2 ?c3 ?c4 ?c5 ?_)
    case c1 => exact cell_one_new _ _ _
    case c2 => intro x hx; simp at hx; subst hx; rfl
    case c3 => unfold maxLen; omega
    case c4 => omega
    case c5 => simp; omega
    intro v' w1 hown1 hgrow _ hloc
    have HK1 := known_grown HK hgrow (fun b hb => by
      have := (hown.out.lt b hb).1
      refine ⟨by omega, fun f hf => ?_⟩
      have : f.1 = w.heap.size := by simpa using congrArg Prod.fst (List.mem_singleton.1 hf)
      omega)
    clear hgrow hloc HK A0 A1 As
    have A0 := HK1.get 0 0 rfl rfl
    have A1 := HK1.get 0 1 rfl rfl
    have As := HK1.lt 0 rfl
    have HO := Lib.hid hown1
    clear hown1
    obtain ⟨g2, cap2, rfl, hg2⟩ := own_form HO.out
    go_wp2
    go_roundw
    case rel =>
      obtain ⟨hx1, hx2⟩ := hx.out
      have hsub : n - k = (n - (k + 1)) + 1 := by omega
      have hu2 := hu.out
      refine ⟨k + 1, u / 256, xs ++ [u % 256], _, rfl, by omega, by go_num, congrArg (Value.int .i64) HU.out, (by unfold I64 at hu2; show I64 _; unfold I64; omega), ⟨?_, ?_⟩, ?_, HK1⟩
      · rw [← hx1, hsub, byL, List.append_assoc]; rfl
      · simp [hx2]
      · have e : bV (xs ++ [u % 256]) = bV xs ++ [.int .u8 (u % 256)] := by simp [bV]
        show World.ownsRow _ _ _ _ _ _ _
        rw [e]; exact HO.out
    case measure => simp [intOf]; omega
  · have hk2 : k = n := by omega
    subst hk2
    obtain ⟨hx1, hx2⟩ := hx.out
    have hxs : xs = byL k v := by rw [← hx1]; simp [byL]
    clear hx hu
    obtain ⟨k', rfl⟩ : ∃ k', k = k' + 1 := ⟨k - 1, by omega⟩
    obtain ⟨g2, cap2, rfl, hg2⟩ := own_form hown.out
    have HX := Lib.hid hxs
    clear hxs hx1 hx2
    go_wp2
    go_ret2
    refine ⟨g2, cap2, rfl, ?_, HK.base⟩
    have := hown.out
    rw [HX.out] at this
    exact ⟨this.1, this.2.elim Or.inl (fun ⟨g, cap, cur, hv, hg, r⟩ => Or.inr ⟨g, cap, cur, hv, Nat.le_trans (by omega) hg, r⟩)⟩
end Go.Proofs.YtfgmfkiknogdeaaDoor
