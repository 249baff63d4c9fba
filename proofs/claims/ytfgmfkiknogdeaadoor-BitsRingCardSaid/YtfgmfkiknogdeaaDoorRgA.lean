/- WHAT IS PROVED: the ways of taplinelaw01.BitsRing, over what its calls answer. CONDITIONS: the package variable 'plain' holds the signed type of 4 bytes. -/
import Derived.Test.YtfgmfkiknogdeaaDoorRg
import Derived.Test.YtfgmfkiknogdeaaDoorDvW
import Derived.Test.YtfgmfkiknogdeaaDoorKn
namespace Go.Proofs.YtfgmfkiknogdeaaDoor
open Go Go.RowKit Go.QrBits
attribute [local go_sem] reg_cell reg_frozen reg_setCell reg_lt reg_lt_add reg_drew reg_of_drew quietR yieldsR

theorem Gives.call {f : Nat} {args : Array Value} {v : Value} (h : Gives f args v) {w : World} (hp : PlainAt w) : Calls Tryd.prog f args w fun e w' => e = .returned v ∧ Below w.heap.size w w' := h w hp
/-- The operators, in the law's order. -/
def opN (k : Nat) : Int := if k = 0 then 1 else if k = 1 then 2 else if k = 2 then 3 else if k = 3 then 6 else if k = 4 then 7 else 8
theorem opN_at {fs : List (Nat × List Value)} {w0 w : World} {b : Nat} (h : Known fs w0 w) (i : Nat) (hf : fs[i]? = some (b, [.int .i64 1, .int .i64 2, .int .i64 3, .int .i64 6, .int .i64 7, .int .i64 8])) {k : Nat} (hk : k < 6) : w.cell? ⟨b, k, none⟩ = some (.int .i64 (opN k)) := by
  refine h.cell _ (List.mem_of_getElem? hf) k _ ?_
  rcases (by omega : k = 0 ∨ k = 1 ∨ k = 2 ∨ k = 3 ∨ k = 4 ∨ k = 5) with rfl | rfl | rfl | rfl | rfl | rfl <;> rfl
section
variable (sc : Int) (gc : Bool) (st : Int) (gt : Bool) (l0 l1 l2 a b d : Int) (S : Int) (G : Bool) (S' : Int) (G' : Bool) (X Y V U Z R : Nat → Int) (m M : Int)
set_option maxHeartbeats 4000000 in
set_option maxRecDepth 100000 in
theorem ring_w1 (w : World) (hp : PlainAt w) (h : vB sc = false) : Calls Tryd.prog 6 #[.agg #[.int .i64 sc, .bool gc], .agg #[.int .i64 st, .bool gt], .agg #[.int .i64 l0, .int .i64 l1, .int .i64 l2]] w fun e w' => e = .returned (.bool true) ∧ Below w.heap.size w w' := by
  go_enter Tryd.func6, Tryd.ntmps6
  have HK := Known.start w
  go_wp2_with fail
  replace HK := HK.box (vs := [.int .i64 sc, .bool gc]) (t := 23)
  replace HK := HK.box (vs := [.int .i64 st, .bool gt]) (t := 23)
  replace HK := HK.box (vs := [.int .i64 l0, .int .i64 l1, .int .i64 l2]) (t := 56)
  simp only [World.size_alloc] at HK
  refine (sane_c _ (hp.below HK.base)).mono ?_
  rintro e w1 ⟨rfl, hq⟩
  replace HK := HK.below hq
  clear hq
  have L_0 := HK.get 0 0 rfl rfl
  have L_1 := HK.get 0 1 rfl rfl
  have L_2 := HK.get 0 2 rfl rfl
  have L_s := HK.lt 0 rfl
  have B_0 := HK.get 1 0 rfl rfl
  have B_1 := HK.get 1 1 rfl rfl
  have B_s := HK.lt 1 rfl
  have A_0 := HK.get 2 0 rfl rfl
  have A_1 := HK.get 2 1 rfl rfl
  have A_s := HK.lt 2 rfl
  go_wp2_with fail
  clear L_0 L_1 L_2 L_s B_0 B_1 B_s A_0 A_1 A_s
  refine (check_no sc gc _ h).mono ?_
  rintro e w2 ⟨rfl, hq⟩
  replace HK := HK.below hq
  clear hq
  have L_0 := HK.get 0 0 rfl rfl
  have L_1 := HK.get 0 1 rfl rfl
  have L_2 := HK.get 0 2 rfl rfl
  have L_s := HK.lt 0 rfl
  have B_0 := HK.get 1 0 rfl rfl
  have B_1 := HK.get 1 1 rfl rfl
  have B_s := HK.lt 1 rfl
  have A_0 := HK.get 2 0 rfl rfl
  have A_1 := HK.get 2 1 rfl rfl
  have A_s := HK.lt 2 rfl
  go_wp2
  go_ret
  exact ⟨rfl, by repeat (first | exact HK.base | apply b_alloc)⟩
set_option maxHeartbeats 4000000 in
set_option maxRecDepth 100000 in
theorem ring_w2 (w : World) (hp : PlainAt w) (h : vB sc = true) (h2 : vB st = false) : Calls Tryd.prog 6 #[.agg #[.int .i64 sc, .bool gc], .agg #[.int .i64 st, .bool gt], .agg #[.int .i64 l0, .int .i64 l1, .int .i64 l2]] w fun e w' => e = .returned (.bool true) ∧ Below w.heap.size w w' := by
  go_enter Tryd.func6, Tryd.ntmps6
  have HK := Known.start w
  go_wp2_with fail
  replace HK := HK.box (vs := [.int .i64 sc, .bool gc]) (t := 23)
  replace HK := HK.box (vs := [.int .i64 st, .bool gt]) (t := 23)
  replace HK := HK.box (vs := [.int .i64 l0, .int .i64 l1, .int .i64 l2]) (t := 56)
  simp only [World.size_alloc] at HK
  refine (sane_c _ (hp.below HK.base)).mono ?_
  rintro e w1 ⟨rfl, hq⟩
  replace HK := HK.below hq
  clear hq
  have L_0 := HK.get 0 0 rfl rfl
  have L_1 := HK.get 0 1 rfl rfl
  have L_2 := HK.get 0 2 rfl rfl
  have L_s := HK.lt 0 rfl
  have B_0 := HK.get 1 0 rfl rfl
  have B_1 := HK.get 1 1 rfl rfl
  have B_s := HK.lt 1 rfl
  have A_0 := HK.get 2 0 rfl rfl
  have A_1 := HK.get 2 1 rfl rfl
  have A_s := HK.lt 2 rfl
  go_wp2_with fail
  clear L_0 L_1 L_2 L_s B_0 B_1 B_s A_0 A_1 A_s
  refine (check_c sc gc _ h).mono ?_
  rintro e w2 ⟨rfl, hq⟩
  replace HK := HK.below hq
  clear hq
  have L_0 := HK.get 0 0 rfl rfl
  have L_1 := HK.get 0 1 rfl rfl
  have L_2 := HK.get 0 2 rfl rfl
  have L_s := HK.lt 0 rfl
  have B_0 := HK.get 1 0 rfl rfl
  have B_1 := HK.get 1 1 rfl rfl
  have B_s := HK.lt 1 rfl
  have A_0 := HK.get 2 0 rfl rfl
  have A_1 := HK.get 2 1 rfl rfl
  have A_s := HK.lt 2 rfl
  go_wp2_with fail
  clear L_0 L_1 L_2 L_s B_0 B_1 B_s A_0 A_1 A_s
  refine (check_no st gt _ h2).mono ?_
  rintro e w3 ⟨rfl, hq⟩
  replace HK := HK.below hq
  clear hq
  have L_0 := HK.get 0 0 rfl rfl
  have L_1 := HK.get 0 1 rfl rfl
  have L_2 := HK.get 0 2 rfl rfl
  have L_s := HK.lt 0 rfl
  have B_0 := HK.get 1 0 rfl rfl
  have B_1 := HK.get 1 1 rfl rfl
  have B_s := HK.lt 1 rfl
  have A_0 := HK.get 2 0 rfl rfl
  have A_1 := HK.get 2 1 rfl rfl
  have A_s := HK.lt 2 rfl
  go_wp2
  go_ret
  exact ⟨rfl, by repeat (first | exact HK.base | apply b_alloc)⟩
set_option maxHeartbeats 4000000 in
set_option maxRecDepth 100000 in
theorem ring_w3 (w : World) (hp : PlainAt w) (h : vB sc = true) (h2 : vB st = true) (hlt : sc < st) : Calls Tryd.prog 6 #[.agg #[.int .i64 sc, .bool gc], .agg #[.int .i64 st, .bool gt], .agg #[.int .i64 l0, .int .i64 l1, .int .i64 l2]] w fun e w' => e = .returned (.bool true) ∧ Below w.heap.size w w' := by
  go_enter Tryd.func6, Tryd.ntmps6
  have HK := Known.start w
  go_wp2_with fail
  replace HK := HK.box (vs := [.int .i64 sc, .bool gc]) (t := 23)
  replace HK := HK.box (vs := [.int .i64 st, .bool gt]) (t := 23)
  replace HK := HK.box (vs := [.int .i64 l0, .int .i64 l1, .int .i64 l2]) (t := 56)
  simp only [World.size_alloc] at HK
  refine (sane_c _ (hp.below HK.base)).mono ?_
  rintro e w1 ⟨rfl, hq⟩
  replace HK := HK.below hq
  clear hq
  have L_0 := HK.get 0 0 rfl rfl
  have L_1 := HK.get 0 1 rfl rfl
  have L_2 := HK.get 0 2 rfl rfl
  have L_s := HK.lt 0 rfl
  have B_0 := HK.get 1 0 rfl rfl
  have B_1 := HK.get 1 1 rfl rfl
  have B_s := HK.lt 1 rfl
  have A_0 := HK.get 2 0 rfl rfl
  have A_1 := HK.get 2 1 rfl rfl
  have A_s := HK.lt 2 rfl
  go_wp2_with fail
  clear L_0 L_1 L_2 L_s B_0 B_1 B_s A_0 A_1 A_s
  refine (check_c sc gc _ h).mono ?_
  rintro e w2 ⟨rfl, hq⟩
  replace HK := HK.below hq
  clear hq
  have L_0 := HK.get 0 0 rfl rfl
  have L_1 := HK.get 0 1 rfl rfl
  have L_2 := HK.get 0 2 rfl rfl
  have L_s := HK.lt 0 rfl
  have B_0 := HK.get 1 0 rfl rfl
  have B_1 := HK.get 1 1 rfl rfl
  have B_s := HK.lt 1 rfl
  have A_0 := HK.get 2 0 rfl rfl
  have A_1 := HK.get 2 1 rfl rfl
  have A_s := HK.lt 2 rfl
  go_wp2_with fail
  clear L_0 L_1 L_2 L_s B_0 B_1 B_s A_0 A_1 A_s
  refine (check_c st gt _ h2).mono ?_
  rintro e w3 ⟨rfl, hq⟩
  replace HK := HK.below hq
  clear hq
  have L_0 := HK.get 0 0 rfl rfl
  have L_1 := HK.get 0 1 rfl rfl
  have L_2 := HK.get 0 2 rfl rfl
  have L_s := HK.lt 0 rfl
  have B_0 := HK.get 1 0 rfl rfl
  have B_1 := HK.get 1 1 rfl rfl
  have B_s := HK.lt 1 rfl
  have A_0 := HK.get 2 0 rfl rfl
  have A_1 := HK.get 2 1 rfl rfl
  have A_s := HK.lt 2 rfl
  go_wp2
  go_ret
  exact ⟨rfl, by repeat (first | exact HK.base | apply b_alloc)⟩
end
end Go.Proofs.YtfgmfkiknogdeaaDoor
