/- WHAT IS PROVED: taplinelaw01.BitsShifts answers true, for any type, value and counts. CONDITIONS: the package variables 'plain' and 'promoted' hold what their initialisers lay. -/
import Derived.Test.YtfgmfkiknogdeaaDoorShM0
import Derived.Test.YtfgmfkiknogdeaaDoorShM1
import Derived.Test.YtfgmfkiknogdeaaDoorShM2
import Derived.Test.YtfgmfkiknogdeaaDoorShM3
import Derived.Test.YtfgmfkiknogdeaaDoorE2
namespace Go.Proofs.YtfgmfkiknogdeaaDoor
open Go Go.RowKit Go.QrBits
section
variable {s : Int} {g : Bool}
theorem pS_pB {S : Int} (h : pB S) : pS S = S := by rcases h with rfl | rfl <;> rfl
theorem pG_pB {S : Int} {G : Bool} (h : pB S) : pG S G = G := by rcases h with rfl | rfl <;> rfl
theorem cS_pB {S : Int} {G : Bool} (h : pB S) : cS S G S = S := by rcases h with rfl | rfl <;> cases G <;> rfl
theorem cG_pB {S : Int} {G : Bool} (h : pB S) : cG S G S G = G := by rcases h with rfl | rfl <;> cases G <;> rfl
end
theorem I64_4 : vB 4 = true := rfl
section
variable {s : Int} {g : Bool} {v m : Int}
theorem shl_g (h : vB s = true) (hv : I64 v) (h0 : 0 ≤ m) (h1 : m < 8 * pS s) :
    Gives 28 #[.int .i64 9, .agg #[.int .i64 s, .bool g], .int .i64 v, .agg #[.int .i64 4, .bool true], .int .i64 m] (.tuple #[.agg #[.int .i64 (pS s), .bool (pG s g)], .int .i64 (wr (pS s) (pG s g) (wrap64 (wr s g v * 2 ^ m.toNat))), .int .i64 0]) := by
  intro w hp
  have hm : I64 m := by unfold I64; rcases pB_pS h with e | e <;> omega
  have := bin_shl s g v 4 true m w hp h I64_4 hv hm
  rw [ct_in (pB_pS h) h0 h1, wr_promS h] at this
  exact this
theorem shr_g (h : vB s = true) (hv : I64 v) (h0 : 0 ≤ m) (h1 : m < 8 * pS s) :
    Gives 28 #[.int .i64 10, .agg #[.int .i64 s, .bool g], .int .i64 v, .agg #[.int .i64 4, .bool true], .int .i64 m] (.tuple #[.agg #[.int .i64 (pS s), .bool (pG s g)], .int .i64 (wr (pS s) (pG s g) (shrV (pG s g) (wr s g v) m)), .int .i64 0]) := by
  intro w hp
  have hm : I64 m := by unfold I64; rcases pB_pS h with e | e <;> omega
  have := bin_shr s g v 4 true m w hp h I64_4 hv hm
  rw [ct_in (pB_pS h) h0 h1, wr_promS h] at this
  exact this
end
section
variable {S : Int} {G : Bool} {W m : Int}
theorem mul_g (h : pB S) (hW : wr S G W = W) (hi : I64 W) :
    Gives 28 #[.int .i64 3, .agg #[.int .i64 S, .bool G], .int .i64 W, .agg #[.int .i64 S, .bool G], .int .i64 (wrap64 (2 ^ m.toNat))] (.tuple #[.agg #[.int .i64 S, .bool G], .int .i64 (wr S G (wrap64 (W * 2 ^ m.toNat))), .int .i64 0]) := by
  intro w hp
  have := bin_mul S G W S G (wrap64 (2 ^ m.toNat)) w hp (pB_ok h) (pB_ok h) hi (I64_wrap64 _)
  rw [cS_pB h, cG_pB h, hW, hW, wr_wr (pB_ok h), ← shl_mul h] at this
  exact this
theorem quo_g (h : pB S) (hW : wr S G W = W) (hi : I64 W) (hpos : G = true → 0 ≤ W) (h1 : m < 8 * S) (h2 : G = true → m < 8 * S - 1) :
    Gives 28 #[.int .i64 4, .agg #[.int .i64 S, .bool G], .int .i64 W, .agg #[.int .i64 S, .bool G], .int .i64 (wrap64 (2 ^ m.toNat))] (.tuple #[.agg #[.int .i64 S, .bool G], .int .i64 (wr S G (shrV G W m)), .int .i64 0]) := by
  intro w hp
  obtain ⟨e1, _, e3⟩ := pow_val (G := G) h h1 h2
  have := bin_div S G W S G (wrap64 (2 ^ m.toNat)) w hp (pB_ok h) (pB_ok h) hi (I64_wrap64 _) (by rw [cS_pB h, cG_pB h, e1, e1]; exact e3)
  rw [cS_pB h, cG_pB h, hW, hW, e1, e1, quo_key h hi hW hpos h1 h2] at this
  exact this
end
set_option maxHeartbeats 1000000 in
theorem shifts_walk (s : Int) (g : Bool) (v m n : Int) (w : World) (hp : PlainAt w) (hr : PromAt w) (iv : I64 v) :
    Calls Tryd.prog 11 #[.agg #[.int .i64 s, .bool g], .int .i64 v, .agg #[.int .i64 m, .int .i64 n]] w fun e w' => e = .returned (.bool true) ∧ Below w.heap.size w w' := by
  cases h : vB s
  · exact shift_w1 s g v m n w hp h
  have hS := pB_pS h
  have hPr : Gives 16 #[.agg #[.int .i64 s, .bool g]] (.tuple #[.agg #[.int .i64 (pS s), .bool (pG s g)], .int .i64 0]) := fun w hp => Promote_c s g w hp h
  by_cases h1 : m < 0
  · cases hG : pG s g <;> rw [hG] at hPr
    · exact shift_e0f s g v m n (pS s) w hp hPr h1
    · exact shift_e0t s g v m n (pS s) w hp hPr h1
  by_cases h2 : n < 0
  · cases hG : pG s g <;> rw [hG] at hPr
    · exact shift_e1f s g v m n (pS s) w hp hPr h1 h2
    · exact shift_e1t s g v m n (pS s) w hp hPr h1 h2
  by_cases h3 : 8 * pS s ≤ m
  · cases hG : pG s g <;> rw [hG] at hPr
    · exact shift_e2f s g v m n (pS s) w hp hPr h1 h2 h3 hS
    · exact shift_e2t s g v m n (pS s) w hp hPr h1 h2 h3 hS
  by_cases h4 : 8 * pS s ≤ n
  · cases hG : pG s g <;> rw [hG] at hPr
    · exact shift_e3f s g v m n (pS s) w hp hPr h1 h2 h3 h4 hS
    · exact shift_e3t s g v m n (pS s) w hp hPr h1 h2 h3 h4 hS
  have hWi : I64 (wr s g v) := wr_I64 h iv
  have hWw := wr_promS (g := g) h v
  have hL := shl_g (g := g) h iv (m := m) (by omega) (by omega)
  have hR := shr_g (g := g) h iv (m := m) (by omega) (by omega)
  have hW : Gives 41 #[.agg #[.int .i64 s, .bool g], .int .i64 v] (.int .i64 (wr s g v)) := fun w _ => wrapL_c s g v w h iv
  have hM := mul_g (m := m) hS hWw hWi
  have eG := pG_pB (G := pG s g) hS
  have eS := pS_pB hS
  have hLi : I64 (wr (pS s) (pG s g) (wrap64 (wr s g v * 2 ^ m.toNat))) := wr_I64 (pB_ok hS) (I64_wrap64 _)
  have hRi : I64 (wr (pS s) (pG s g) (shrV (pG s g) (wr s g v) m)) := wr_I64 (pB_ok hS) (shrV_I64 hWi)
  have hL2 := shl_g (g := pG s g) (pB_ok hS) hLi (m := n) (by omega) (by omega)
  have hR2 := shr_g (g := pG s g) (pB_ok hS) hRi (m := n) (by omega) (by omega)
  rw [eG, eS, wr_wr (pB_ok hS), shl_shl hS _ (by omega) (by omega)] at hL2
  rw [eG, eS, wr_wr (pB_ok hS), shr_shr hS hWi hWw (by omega) (by omega)] at hR2
  have hQ := fun hpos h5 => quo_g (m := m) hS hWw hWi hpos (by omega) h5
  by_cases hs : 8 * pS s ≤ m + n
  · cases hbw : decide (0 ≤ wr s g v) <;> cases hbm : decide (m < 8 * pS s - 1) <;> cases hG : pG s g <;> rw [hG] at hPr hL hR hM hQ
    · exact shift_mf001 s g v m n _ _ _ _ w hp hr hPr h1 h2 h3 h4 hS hL hR hW hM (hQ (fun e => by cases e) (fun e => by cases e)) hbw hbm hs
    · exact shift_mt001 s g v m n _ _ _ _ w hp hr hPr h1 h2 h3 h4 hS hL hR hW hM hbw hbm hs
    · exact shift_mf011 s g v m n _ _ _ _ w hp hr hPr h1 h2 h3 h4 hS hL hR hW hM (hQ (fun e => by cases e) (fun e => by cases e)) hbw hbm hs
    · exact shift_mt011 s g v m n _ _ _ _ w hp hr hPr h1 h2 h3 h4 hS hL hR hW hM hbw hbm hs
    · exact shift_mf101 s g v m n _ _ _ _ w hp hr hPr h1 h2 h3 h4 hS hL hR hW hM (hQ (fun e => by cases e) (fun e => by cases e)) hbw hbm hs
    · exact shift_mt101 s g v m n _ _ _ _ w hp hr hPr h1 h2 h3 h4 hS hL hR hW hM hbw hbm hs
    · exact shift_mf111 s g v m n _ _ _ _ w hp hr hPr h1 h2 h3 h4 hS hL hR hW hM (hQ (fun e => by cases e) (fun e => by cases e)) hbw hbm hs
    · exact shift_mt111 s g v m n _ _ _ _ w hp hr hPr h1 h2 h3 h4 hS hL hR hW hM (hQ (fun _ => of_decide_eq_true hbw) (fun _ => of_decide_eq_true hbm)) hbw hbm hs
  · have hL3 := shl_g (g := g) h iv (m := m + n) (by omega) (by omega)
    have hR3 := shr_g (g := g) h iv (m := m + n) (by omega) (by omega)
    cases hbw : decide (0 ≤ wr s g v) <;> cases hbm : decide (m < 8 * pS s - 1) <;> cases hG : pG s g <;> rw [hG] at hPr hL hR hM hQ hL2 hR2 hL3 hR3
    · exact shift_mf000 s g v m n _ _ _ _ _ _ w hp hr hPr h1 h2 h3 h4 hS hL hR hW hM (hQ (fun e => by cases e) (fun e => by cases e)) hbw hbm hs hL2 hR2 hL3 hR3
    · exact shift_mt000 s g v m n _ _ _ _ _ _ w hp hr hPr h1 h2 h3 h4 hS hL hR hW hM hbw hbm hs hL2 hR2 hL3 hR3
    · exact shift_mf010 s g v m n _ _ _ _ _ _ w hp hr hPr h1 h2 h3 h4 hS hL hR hW hM (hQ (fun e => by cases e) (fun e => by cases e)) hbw hbm hs hL2 hR2 hL3 hR3
    · exact shift_mt010 s g v m n _ _ _ _ _ _ w hp hr hPr h1 h2 h3 h4 hS hL hR hW hM hbw hbm hs hL2 hR2 hL3 hR3
    · exact shift_mf100 s g v m n _ _ _ _ _ _ w hp hr hPr h1 h2 h3 h4 hS hL hR hW hM (hQ (fun e => by cases e) (fun e => by cases e)) hbw hbm hs hL2 hR2 hL3 hR3
    · exact shift_mt100 s g v m n _ _ _ _ _ _ w hp hr hPr h1 h2 h3 h4 hS hL hR hW hM hbw hbm hs hL2 hR2 hL3 hR3
    · exact shift_mf110 s g v m n _ _ _ _ _ _ w hp hr hPr h1 h2 h3 h4 hS hL hR hW hM (hQ (fun e => by cases e) (fun e => by cases e)) hbw hbm hs hL2 hR2 hL3 hR3
    · exact shift_mt110 s g v m n _ _ _ _ _ _ w hp hr hPr h1 h2 h3 h4 hS hL hR hW hM (hQ (fun _ => of_decide_eq_true hbw) (fun _ => of_decide_eq_true hbm)) hbw hbm hs hL2 hR2 hL3 hR3
end Go.Proofs.YtfgmfkiknogdeaaDoor
