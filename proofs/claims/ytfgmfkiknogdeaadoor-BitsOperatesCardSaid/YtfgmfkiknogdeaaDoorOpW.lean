/- WHAT IS PROVED: taplinelaw01.BitsOperates answers true, for any operator, types and operands. CONDITIONS: the package variables 'plain' and 'promoted' hold what their initialisers lay. -/
import Derived.Test.YtfgmfkiknogdeaaDoorOp4
import Derived.Test.YtfgmfkiknogdeaaDoorOp5
import Derived.Test.YtfgmfkiknogdeaaDoorF
namespace Go.Proofs.YtfgmfkiknogdeaaDoor
open Go Go.RowKit Go.QrBits
attribute [local go_sem] reg_cell reg_frozen reg_setCell reg_lt reg_lt_add reg_drew reg_of_drew quietR yieldsR

/-- What a call answers where both package variables are as laid. -/
def GivesB (f : Nat) (args : Array Value) (v : Value) : Prop := ∀ w, PlainAt w → PromAt w → Calls Tryd.prog f args w fun e w' => e = .returned v ∧ Below w.heap.size w w'
section
variable (op : Int) (s0 : Int) (g0 : Bool) (s1 : Int) (g1 : Bool) (l0 l1 : Int) (S : Int) (G : Bool) (V E : Int) (S2 : Int) (G2 : Bool) (V2 E2 : Int)
set_option maxHeartbeats 4000000 in
set_option maxRecDepth 100000 in
theorem operates_w (w : World) (hp : PlainAt w) (hr : PromAt w) (hU : GivesB 26 #[.int .i64 op, (.agg #[.int .i64 s0, .bool g0]), .int .i64 l0] (.tuple #[.agg #[.int .i64 S, .bool G], .int .i64 V, .int .i64 E])) (hV : GivesB 27 #[.int .i64 op, (.agg #[.int .i64 s0, .bool g0]), .int .i64 l0] (.agg #[.int .i64 S, .bool G, .int .i64 V, .int .i64 E])) (hB : GivesB 28 #[.int .i64 op, (.agg #[.int .i64 s0, .bool g0]), .int .i64 l0, (.agg #[.int .i64 s1, .bool g1]), .int .i64 l1] (.tuple #[.agg #[.int .i64 S2, .bool G2], .int .i64 V2, .int .i64 E2])) (hD : GivesB 29 #[.int .i64 op, (.agg #[.int .i64 s0, .bool g0]), .int .i64 l0, (.agg #[.int .i64 s1, .bool g1]), .int .i64 l1] (.agg #[.int .i64 S2, .bool G2, .int .i64 V2, .int .i64 E2])) : Calls Tryd.prog 4 #[.int .i64 op, .agg #[.int .i64 s0, .bool g0, .int .i64 s1, .bool g1], .agg #[.int .i64 l0, .int .i64 l1]] w fun e w' => e = .returned (.bool true) ∧ Below w.heap.size w w' := by
  go_enter Tryd.func4, Tryd.ntmps4
  have HK := Known.start w
  go_wp2_with fail
  replace HK := HK.box (vs := [.int .i64 s0, .bool g0, .int .i64 s1, .bool g1]) (t := 36)
  replace HK := HK.box (vs := [.int .i64 l0, .int .i64 l1]) (t := 37)
  simp only [World.size_alloc] at HK
  refine (sane_c _ (hp.below HK.base)).mono ?_
  rintro e w1 ⟨rfl, hq⟩
  replace HK := HK.below hq
  clear hq
  have L_0 := HK.get 0 0 rfl rfl
  have L_1 := HK.get 0 1 rfl rfl
  have L_s := HK.lt 0 rfl
  have A_0 := HK.get 1 0 rfl rfl
  have A_1 := HK.get 1 1 rfl rfl
  have A_2 := HK.get 1 2 rfl rfl
  have A_3 := HK.get 1 3 rfl rfl
  have A_s := HK.lt 1 rfl
  go_wp2_with fail
  clear L_0 L_1 L_s A_0 A_1 A_2 A_3 A_s
  refine (hU _ (hp.below HK.base) (hr.below HK.base)).mono ?_
  rintro e w2 ⟨rfl, hq⟩
  replace HK := HK.below hq
  clear hq
  have L_0 := HK.get 0 0 rfl rfl
  have L_1 := HK.get 0 1 rfl rfl
  have L_s := HK.lt 0 rfl
  have A_0 := HK.get 1 0 rfl rfl
  have A_1 := HK.get 1 1 rfl rfl
  have A_2 := HK.get 1 2 rfl rfl
  have A_3 := HK.get 1 3 rfl rfl
  have A_s := HK.lt 1 rfl
  go_wp2_with fail
  replace HK := HK.box (vs := [.int .i64 S, .bool G]) (t := 23)
  clear L_0 L_1 L_s A_0 A_1 A_2 A_3 A_s
  refine (hV _ (hp.below HK.base) (hr.below HK.base)).mono ?_
  rintro e w3 ⟨rfl, hq⟩
  replace HK := HK.below hq
  clear hq
  have U_0 := HK.get 0 0 rfl rfl
  have U_1 := HK.get 0 1 rfl rfl
  have U_s := HK.lt 0 rfl
  have L_0 := HK.get 1 0 rfl rfl
  have L_1 := HK.get 1 1 rfl rfl
  have L_s := HK.lt 1 rfl
  have A_0 := HK.get 2 0 rfl rfl
  have A_1 := HK.get 2 1 rfl rfl
  have A_2 := HK.get 2 2 rfl rfl
  have A_3 := HK.get 2 3 rfl rfl
  have A_s := HK.lt 2 rfl
  go_wp2_with fail
  replace HK := HK.box (vs := [.int .i64 S, .bool G, .int .i64 V, .int .i64 E]) (t := 41)
  clear U_0 U_1 U_s L_0 L_1 L_s A_0 A_1 A_2 A_3 A_s
  refine (hB _ (hp.below HK.base) (hr.below HK.base)).mono ?_
  rintro e w4 ⟨rfl, hq⟩
  replace HK := HK.below hq
  clear hq
  have X_0 := HK.get 0 0 rfl rfl
  have X_1 := HK.get 0 1 rfl rfl
  have X_2 := HK.get 0 2 rfl rfl
  have X_3 := HK.get 0 3 rfl rfl
  have X_s := HK.lt 0 rfl
  have U_0 := HK.get 1 0 rfl rfl
  have U_1 := HK.get 1 1 rfl rfl
  have U_s := HK.lt 1 rfl
  have L_0 := HK.get 2 0 rfl rfl
  have L_1 := HK.get 2 1 rfl rfl
  have L_s := HK.lt 2 rfl
  have A_0 := HK.get 3 0 rfl rfl
  have A_1 := HK.get 3 1 rfl rfl
  have A_2 := HK.get 3 2 rfl rfl
  have A_3 := HK.get 3 3 rfl rfl
  have A_s := HK.lt 3 rfl
  go_wp2_with fail
  replace HK := HK.box (vs := [.int .i64 S2, .bool G2]) (t := 23)
  clear X_0 X_1 X_2 X_3 X_s U_0 U_1 U_s L_0 L_1 L_s A_0 A_1 A_2 A_3 A_s
  refine (hD _ (hp.below HK.base) (hr.below HK.base)).mono ?_
  rintro e w5 ⟨rfl, hq⟩
  replace HK := HK.below hq
  clear hq
  have Y_0 := HK.get 0 0 rfl rfl
  have Y_1 := HK.get 0 1 rfl rfl
  have Y_s := HK.lt 0 rfl
  have X_0 := HK.get 1 0 rfl rfl
  have X_1 := HK.get 1 1 rfl rfl
  have X_2 := HK.get 1 2 rfl rfl
  have X_3 := HK.get 1 3 rfl rfl
  have X_s := HK.lt 1 rfl
  have U_0 := HK.get 2 0 rfl rfl
  have U_1 := HK.get 2 1 rfl rfl
  have U_s := HK.lt 2 rfl
  have L_0 := HK.get 3 0 rfl rfl
  have L_1 := HK.get 3 1 rfl rfl
  have L_s := HK.lt 3 rfl
  have A_0 := HK.get 4 0 rfl rfl
  have A_1 := HK.get 4 1 rfl rfl
  have A_2 := HK.get 4 2 rfl rfl
  have A_3 := HK.get 4 3 rfl rfl
  have A_s := HK.lt 4 rfl
  go_wp2
  go_ret
  exact ⟨rfl, by repeat (first | exact HK.base | apply b_alloc)⟩
end
/-- Unary of both answers alike. -/
def AgreeU (op s : Int) (g : Bool) (v : Int) : Prop := ∃ (S : Int) (G : Bool) (V E : Int), GivesB 26 #[.int .i64 op, .agg #[.int .i64 s, .bool g], .int .i64 v] (.tuple #[.agg #[.int .i64 S, .bool G], .int .i64 V, .int .i64 E]) ∧ GivesB 27 #[.int .i64 op, .agg #[.int .i64 s, .bool g], .int .i64 v] (.agg #[.int .i64 S, .bool G, .int .i64 V, .int .i64 E])
def AgreeB (op s1 : Int) (g1 : Bool) (a s2 : Int) (g2 : Bool) (b : Int) : Prop := ∃ (S : Int) (G : Bool) (V E : Int), GivesB 28 #[.int .i64 op, .agg #[.int .i64 s1, .bool g1], .int .i64 a, .agg #[.int .i64 s2, .bool g2], .int .i64 b] (.tuple #[.agg #[.int .i64 S, .bool G], .int .i64 V, .int .i64 E]) ∧ GivesB 29 #[.int .i64 op, .agg #[.int .i64 s1, .bool g1], .int .i64 a, .agg #[.int .i64 s2, .bool g2], .int .i64 b] (.agg #[.int .i64 S, .bool G, .int .i64 V, .int .i64 E])
theorem unary_agree (op s : Int) (g : Bool) (v : Int) (hv : I64 v) : AgreeU op s g v := by
  cases h : vB s
  · exact ⟨_, _, _, _, fun w _ _ => Unary_no op s g v w h, fun w _ _ => runary_no op s g v w h⟩
  by_cases h1 : op = 1
  · subst h1
    have e : wr (pS s) (pG s g) (IntKind.i64.wrap (-(wr s g v))) = wr (pS s) (pG s g) (wrap64 (-(wr s g v))) := by rw [i64_w64]
    exact ⟨_, _, _, _, fun w hp _ => by have := Unary_1 s g v w hp h hv; rwa [e] at this, fun w _ hr => runary_1 s g v w hr h⟩
  by_cases h2 : op = 2
  · subst h2
    have e : wr (pS s) (pG s g) (bits .xor .i64 (-1) (wr s g v)) = wr (pS s) (pG s g) (wrap64 (wrap64 (-(wr s g v)) - 1)) := by
      rw [not_val]; congr 1; unfold wrap64; omega
    exact ⟨_, _, _, _, fun w hp _ => by have := Unary_2 s g v w hp h hv; rwa [e] at this, fun w _ hr => runary_2 s g v w hr h⟩
  by_cases h3 : op = 3
  · subst h3
    exact ⟨_, _, _, _, fun w hp _ => Unary_3 s g v w hp h hv, fun w _ hr => runary_3 s g v w hr h⟩
  · have ho : op < 1 ∨ 3 < op := by omega
    exact ⟨_, _, _, _, fun w _ _ => Unary_bad op s g v w h ho, fun w _ hr => runary_bad op s g v w hr h ho⟩
theorem binary_agree (op s1 : Int) (g1 : Bool) (a s2 : Int) (g2 : Bool) (b : Int) (ha : I64 a) (hb : I64 b) : AgreeB op s1 g1 a s2 g2 b := by
  cases h1 : vB s1
  · exact ⟨_, _, _, _, fun w _ _ => bin_no1 op s1 g1 a s2 g2 b w h1, fun w _ _ => rbin_no1 op s1 g1 a s2 g2 b w h1⟩
  cases h2 : vB s2
  · exact ⟨_, _, _, _, fun w _ _ => bin_no2 op s1 g1 a s2 g2 b w h1 h2, fun w _ _ => rbin_no2 op s1 g1 a s2 g2 b w h1 h2⟩
  by_cases hlo : op < 1
  · exact ⟨_, _, _, _, fun w hp _ => bin_bad op s1 g1 a s2 g2 b w hp h1 h2 ha hb (.inl hlo), fun w _ _ => rbin_lo op s1 g1 a s2 g2 b w h1 h2 hlo⟩
  by_cases hhi : 16 < op
  · exact ⟨_, _, _, _, fun w hp _ => bin_bad op s1 g1 a s2 g2 b w hp h1 h2 ha hb (.inr hhi), fun w _ _ => rbin_hi op s1 g1 a s2 g2 b w h1 h2 hlo hhi⟩
  have hall : op = 1 ∨ op = 2 ∨ op = 3 ∨ op = 4 ∨ op = 5 ∨ op = 6 ∨ op = 7 ∨ op = 8 ∨ op = 9 ∨ op = 10 ∨ op = 11 ∨ op = 12 ∨ op = 13 ∨ op = 14 ∨ op = 15 ∨ op = 16 := by omega
  have hpb := pB_pS h1
  have hws := wr_promS (g := g1) h1 a
  have hi1 := wr_I64 (g := g1) h1 ha
  have e9 : wr (pS s1) (pG s1 g1) (wrap64 (wr (pS s1) (pG s1 g1) (wr s1 g1 a) * 2 ^ (ctV (pS s1) (wr s2 g2 b)).toNat)) = wr (pS s1) (pG s1 g1) (wrap64 (wr s1 g1 a * 2 ^ (ctV (pS s1) (wr s2 g2 b)).toNat)) := by rw [hws]
  have e10 : wr (pS s1) (pG s1 g1) (shrV (pG s1 g1) (wr (pS s1) (pG s1 g1) (wr s1 g1 a)) (ctV (pS s1) (wr s2 g2 b))) = shrV (pG s1 g1) (wr s1 g1 a) (ctV (pS s1) (wr s2 g2 b)) := by
    rw [hws]; exact (shr_key hpb hi1 hws _).1
  rcases hall with rfl | rfl | rfl | rfl | rfl | rfl | rfl | rfl | rfl | rfl | rfl | rfl | rfl | rfl | rfl | rfl
  · exact ⟨_, _, _, _, fun w hp _ => bin_add s1 g1 a s2 g2 b w hp h1 h2 ha hb, fun w _ hr => rbin_1 s1 g1 a s2 g2 b w hr h1 h2 ha hb⟩
  · exact ⟨_, _, _, _, fun w hp _ => bin_sub s1 g1 a s2 g2 b w hp h1 h2 ha hb, fun w _ hr => rbin_2 s1 g1 a s2 g2 b w hr h1 h2 ha hb⟩
  · exact ⟨_, _, _, _, fun w hp _ => bin_mul s1 g1 a s2 g2 b w hp h1 h2 ha hb, fun w _ hr => rbin_3 s1 g1 a s2 g2 b w hr h1 h2 ha hb⟩
  · by_cases h0 : wr (cS s1 g1 s2) (cG s1 g1 s2 g2) (wr s2 g2 b) = 0
    · exact ⟨_, _, _, _, fun w hp _ => bin_div0 s1 g1 a s2 g2 b w hp h1 h2 ha hb h0, fun w _ hr => rbin_4z s1 g1 a s2 g2 b w hr h1 h2 ha hb h0⟩
    · exact ⟨_, _, _, _, fun w hp _ => bin_div s1 g1 a s2 g2 b w hp h1 h2 ha hb h0, fun w _ hr => rbin_4 s1 g1 a s2 g2 b w hr h1 h2 ha hb h0⟩
  · by_cases h0 : wr (cS s1 g1 s2) (cG s1 g1 s2 g2) (wr s2 g2 b) = 0
    · exact ⟨_, _, _, _, fun w hp _ => bin_mod0 s1 g1 a s2 g2 b w hp h1 h2 ha hb h0, fun w _ hr => rbin_5z s1 g1 a s2 g2 b w hr h1 h2 ha hb h0⟩
    · exact ⟨_, _, _, _, fun w hp _ => bin_mod s1 g1 a s2 g2 b w hp h1 h2 ha hb h0, fun w _ hr => rbin_5 s1 g1 a s2 g2 b w hr h1 h2 ha hb h0⟩
  · exact ⟨_, _, _, _, fun w hp _ => bin_and s1 g1 a s2 g2 b w hp h1 h2 ha hb, fun w _ hr => rbin_6 s1 g1 a s2 g2 b w hr h1 h2 ha hb⟩
  · exact ⟨_, _, _, _, fun w hp _ => bin_or s1 g1 a s2 g2 b w hp h1 h2 ha hb, fun w _ hr => rbin_7 s1 g1 a s2 g2 b w hr h1 h2 ha hb⟩
  · exact ⟨_, _, _, _, fun w hp _ => bin_xor s1 g1 a s2 g2 b w hp h1 h2 ha hb, fun w _ hr => rbin_8 s1 g1 a s2 g2 b w hr h1 h2 ha hb⟩
  · exact ⟨_, _, _, _, fun w hp _ => by have := bin_shl s1 g1 a s2 g2 b w hp h1 h2 ha hb; rwa [e9] at this, fun w _ hr => rbin_9 s1 g1 a s2 g2 b w hr h1 h2 ha⟩
  · exact ⟨_, _, _, _, fun w hp _ => by have := bin_shr s1 g1 a s2 g2 b w hp h1 h2 ha hb; rwa [e10] at this, fun w _ hr => rbin_10 s1 g1 a s2 g2 b w hr h1 h2 ha⟩
  · exact ⟨_, _, _, _, fun w hp _ => bin_lt s1 g1 a s2 g2 b w hp h1 h2 ha hb, fun w _ hr => rbin_11 s1 g1 a s2 g2 b w hr h1 h2 ha hb⟩
  · exact ⟨_, _, _, _, fun w hp _ => bin_le s1 g1 a s2 g2 b w hp h1 h2 ha hb, fun w _ hr => rbin_12 s1 g1 a s2 g2 b w hr h1 h2 ha hb⟩
  · exact ⟨_, _, _, _, fun w hp _ => bin_gt s1 g1 a s2 g2 b w hp h1 h2 ha hb, fun w _ hr => rbin_13 s1 g1 a s2 g2 b w hr h1 h2 ha hb⟩
  · exact ⟨_, _, _, _, fun w hp _ => bin_ge s1 g1 a s2 g2 b w hp h1 h2 ha hb, fun w _ hr => rbin_14 s1 g1 a s2 g2 b w hr h1 h2 ha hb⟩
  · exact ⟨_, _, _, _, fun w hp _ => bin_eq s1 g1 a s2 g2 b w hp h1 h2 ha hb, fun w _ hr => rbin_15 s1 g1 a s2 g2 b w hr h1 h2 ha hb⟩
  · exact ⟨_, _, _, _, fun w hp _ => bin_ne s1 g1 a s2 g2 b w hp h1 h2 ha hb, fun w _ hr => rbin_16 s1 g1 a s2 g2 b w hr h1 h2 ha hb⟩
theorem operates_walk (op s0 : Int) (g0 : Bool) (s1 : Int) (g1 : Bool) (l0 l1 : Int) (w : World) (hp : PlainAt w) (hr : PromAt w) (i0 : I64 l0) (i1 : I64 l1) :
    Calls Tryd.prog 4 #[.int .i64 op, .agg #[.int .i64 s0, .bool g0, .int .i64 s1, .bool g1], .agg #[.int .i64 l0, .int .i64 l1]] w fun e w' => e = .returned (.bool true) ∧ Below w.heap.size w w' := by
  obtain ⟨S, G, V, E, hU, hV⟩ := unary_agree op s0 g0 l0 i0
  obtain ⟨S2, G2, V2, E2, hB, hD⟩ := binary_agree op s0 g0 l0 s1 g1 l1 i0 i1
  exact operates_w op s0 g0 s1 g1 l0 l1 S G V E S2 G2 V2 E2 w hp hr hU hV hB hD
end Go.Proofs.YtfgmfkiknogdeaaDoor
