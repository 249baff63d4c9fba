/- WHAT IS PROVED: taplinelaw01.BitsRing answers true, for any two types and every three values. CONDITIONS: the package variable 'plain' holds the signed type of 4 bytes. -/
import Derived.Test.YtfgmfkiknogdeaaDoorRgB
import Derived.Test.YtfgmfkiknogdeaaDoorE2
namespace Go.Proofs.YtfgmfkiknogdeaaDoor
open Go Go.RowKit Go.QrBits
section
variable {s : Int} {g : Bool}
theorem wr_promR (h : vB s = true) (v : Int) : wr (pS s) (pG s g) (wr s g v) = wr s g v := by
  rcases vB_cases h with rfl | rfl | rfl | rfl <;> cases g <;> simp [wr, pS, pG] <;> omega
theorem cS_prom (h : vB s = true) : cS (pS s) (pG s g) s = pS s := by rcases vB_cases h with rfl | rfl | rfl | rfl <;> cases g <;> rfl
theorem cG_prom (h : vB s = true) : cG (pS s) (pG s g) s g = pG s g := by rcases vB_cases h with rfl | rfl | rfl | rfl <;> cases g <;> rfl
theorem op_ring (h : vB s = true) {a b : Int} (ha : I64 a) (hb : I64 b) (k : Nat) :
    Gives 40 #[.int .i64 (opN k), .agg #[.int .i64 s, .bool g], .int .i64 a, .int .i64 b] (.tuple #[.agg #[.int .i64 (pS s), .bool (pG s g)], .int .i64 (opR (opN k) s g a b)]) := by
  intro w hp
  have e1 := cS_self s g
  have e2 := cG_self s g
  have e3 := wr_promR (g := g) h
  unfold opR opN
  by_cases h0 : k = 0
  · rw [if_pos h0]
    refine op_of (e := 0) w hp fun w hp => ?_
    have := bin_add s g a s g b w hp h h ha hb
    rw [e1, e2, e3, e3] at this
    exact this
  by_cases h1 : k = 1
  · rw [if_neg h0, if_pos h1]
    refine op_of (e := 0) w hp fun w hp => ?_
    have := bin_sub s g a s g b w hp h h ha hb
    rw [e1, e2, e3, e3] at this
    exact this
  by_cases h2 : k = 2
  · rw [if_neg h0, if_neg h1, if_pos h2]
    refine op_of (e := 0) w hp fun w hp => ?_
    have := bin_mul s g a s g b w hp h h ha hb
    rw [e1, e2, e3, e3] at this
    exact this
  by_cases h3 : k = 3
  · rw [if_neg h0, if_neg h1, if_neg h2, if_pos h3]
    refine op_of (e := 0) w hp fun w hp => ?_
    have := bin_and s g a s g b w hp h h ha hb
    rw [e1, e2, e3, e3] at this
    exact this
  by_cases h4 : k = 4
  · rw [if_neg h0, if_neg h1, if_neg h2, if_neg h3, if_pos h4]
    refine op_of (e := 0) w hp fun w hp => ?_
    have := bin_or s g a s g b w hp h h ha hb
    rw [e1, e2, e3, e3] at this
    exact this
  · rw [if_neg h0, if_neg h1, if_neg h2, if_neg h3, if_neg h4]
    refine op_of (e := 0) w hp fun w hp => ?_
    have := bin_xor s g a s g b w hp h h ha hb
    rw [e1, e2, e3, e3] at this
    exact this
end
theorem opN_2 {k : Nat} (h : ¬ k = 1) : ¬ opN k = 2 := by unfold opN; repeat' split
                                                          all_goals omega
theorem ring_walk (sc : Int) (gc : Bool) (st : Int) (gt : Bool) (l0 l1 l2 : Int) (w : World) (hp : PlainAt w) (i0 : I64 l0) (i1 : I64 l1) (i2 : I64 l2) :
    Calls Tryd.prog 6 #[.agg #[.int .i64 sc, .bool gc], .agg #[.int .i64 st, .bool gt], .agg #[.int .i64 l0, .int .i64 l1, .int .i64 l2]] w fun e w' => e = .returned (.bool true) ∧ Below w.heap.size w w' := by
  cases h : vB sc
  · exact ring_w1 sc gc st gt l0 l1 l2 w hp h
  cases h2 : vB st
  · exact ring_w2 sc gc st gt l0 l1 l2 w hp h h2
  by_cases hlt : sc < st
  · exact ring_w3 sc gc st gt l0 l1 l2 w hp h h2 hlt
  have hP := pS_ok h
  have P1 := pS_pS sc
  have P2 := pG_pG sc gc
  have hsub : ∀ w, PlainAt w → _ := fun w hp => bin_sub (pS sc) (pG sc gc) (opR 1 sc gc l0 l1) sc gc l1 w hp hP h (opR_I64 h _ _ _) i1
  rw [cS_prom h, cG_prom h] at hsub
  have hval : wr (pS sc) (pG sc gc) (wrap64 (wr (pS sc) (pG sc gc) (wr (pS sc) (pG sc gc) (opR 1 sc gc l0 l1)) - wr (pS sc) (pG sc gc) (wr sc gc l1))) = wr (pS sc) (pG sc gc) (wr sc gc l0) := by
    rw [wr_wr hP]; exact ring_4 h l0 l1 i0
  rw [hval] at hsub
  refine ring_w4 sc gc st gt l0 l1 l2 (wr st gt l0) (wr st gt l1) (wr sc gc l0) (pS sc) (pG sc gc) (pS st) (pG st gt)
    (fun k => opR (opN k) sc gc l0 l1) (fun k => opR (opN k) st gt (wr st gt l0) (wr st gt l1)) (fun k => wr st gt (opR (opN k) sc gc l0 l1))
    (fun k => opR (opN k) (pS sc) (pG sc gc) l0 l1) (fun k => opR (opN k) (pS sc) (pG sc gc) l1 l2) (fun k => opR (opN k) (pS sc) (pG sc gc) (opR (opN k) (pS sc) (pG sc gc) l0 l1) l2)
    (opR 1 sc gc l0 l1) (wr (pS sc) (pG sc gc) (wr sc gc l0)) w hp h h2 hlt ?_ ?_ ?_ ?_ ?_ ?_ ?_ ?_ ?_ ?_ ?_ ?_ ?_ ?_ ?_ ?_
  · exact fun k => op_ring h i0 i1 k
  · exact fun w _ => wrapL_c st gt l0 w h2 i0
  · exact fun w _ => wrapL_c st gt l1 w h2 i1
  · exact fun k => op_ring h2 (wr_I64 h2 i0) (wr_I64 h2 i1) k
  · exact fun k w _ => wrapL_c st gt _ w h2 (opR_I64 h _ _ _)
  · intro k w _
    have := wrapL_c st gt (opR (opN k) st gt (wr st gt l0) (wr st gt l1)) w h2 (opR_I64 h2 _ _ _)
    rwa [← ring_1 h h2 (by omega)] at this
  · intro k hk
    have := op_ring (g := gc) h i1 i0 k
    rwa [ring_2 (opN_2 hk)] at this
  · exact fun w hp => Promote_c sc gc w hp h
  · intro k
    have := op_ring (g := pG sc gc) hP i0 i1 k
    rwa [P1, P2] at this
  · intro k
    have := op_ring (g := pG sc gc) hP i1 i2 k
    rwa [P1, P2] at this
  · intro k _
    have := op_ring (g := pG sc gc) hP (opR_I64 (g := pG sc gc) hP (opN k) l0 l1) i2 k
    rwa [P1, P2] at this
  · intro k hk
    have := op_ring (g := pG sc gc) hP i0 (opR_I64 (g := pG sc gc) hP (opN k) l1 l2) k
    rwa [P1, P2, ← ring_3 h (opN_2 hk)] at this
  · exact op_ring h i0 i1 0
  · exact hsub
  · exact fun w _ => wrapL_c sc gc l0 w h i0
  · exact fun w _ => wrapL_c (pS sc) (pG sc gc) _ w hP (wr_I64 h i0)
end Go.Proofs.YtfgmfkiknogdeaaDoor
