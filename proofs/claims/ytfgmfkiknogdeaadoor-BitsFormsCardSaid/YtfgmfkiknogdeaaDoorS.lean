/- WHAT IS PROVED: the chapter's examples, as the laws ask them, one by one. CONDITIONS: the package variable 'plain' holds the signed type of 4 bytes. -/
import Derived.Test.YtfgmfkiknogdeaaDoorL
import Derived.Test.YtfgmfkiknogdeaaDoorP
import Derived.Test.YtfgmfkiknogdeaaDoorF
import Derived.Test.YtfgmfkiknogdeaaDoorE1
import Derived.Test.YtfgmfkiknogdeaaDoorE2
import Derived.Test.YtfgmfkiknogdeaaDoorE3
namespace Go.Proofs.YtfgmfkiknogdeaaDoor
open Go Go.RowKit Go.QrBits
attribute [local go_sem] reg_cell reg_frozen reg_setCell reg_lt reg_lt_add reg_drew reg_of_drew

theorem typ_c (s : Int) (g : Bool) (w : World) : Calls Tryd.prog 43 #[.int .i64 s, .bool g] w fun e w' => e = .returned (.agg #[.int .i64 s, .bool g]) ∧ Below w.heap.size w w' := by
  go_enter Tryd.func43, Tryd.ntmps43
  go_wp2
  go_returns
  exact ⟨rfl, by repeat (first | exact Below.refl _ _ | apply b_alloc | apply b_reg)⟩

theorem I64_lit {n : Int} (h : decide (-9223372036854775808 ≤ n ∧ n ≤ 9223372036854775807) = true) : I64 n := by unfold I64; exact of_decide_eq_true h

theorem sW (w : World) : Calls Tryd.prog 20 #[.agg #[.int .i64 1, .bool true], .int .i64 200] w fun e w' => e = .returned (.tuple #[.int .i64 (-56), .int .i64 0]) ∧ Below w.heap.size w w' :=
  Wrap_c 1 true 200 w rfl (I64_lit rfl)
theorem sU (w : World) (hp : PlainAt w) : Calls Tryd.prog 18 #[.agg #[.int .i64 4, .bool false], .agg #[.int .i64 8, .bool true]] w fun e w' => e = .returned (.tuple #[.agg #[.int .i64 8, .bool true], .int .i64 0]) ∧ Below w.heap.size w w' :=
  Usual_c 4 false 8 true w hp rfl rfl
theorem sLt (w : World) (hp : PlainAt w) : Calls Tryd.prog 28 #[.int .i64 11, .agg #[.int .i64 4, .bool true], .int .i64 (-1), .agg #[.int .i64 4, .bool false], .int .i64 1] w fun e w' => e = .returned (.tuple #[.agg #[.int .i64 4, .bool true], .int .i64 0, .int .i64 0]) ∧ Below w.heap.size w w' :=
  bin_lt 4 true (-1) 4 false 1 w hp rfl rfl (I64_lit rfl) (I64_lit rfl)
theorem sAdd (w : World) (hp : PlainAt w) : Calls Tryd.prog 28 #[.int .i64 1, .agg #[.int .i64 1, .bool false], .int .i64 255, .agg #[.int .i64 1, .bool false], .int .i64 1] w fun e w' => e = .returned (.tuple #[.agg #[.int .i64 4, .bool true], .int .i64 256, .int .i64 0]) ∧ Below w.heap.size w w' :=
  (bin_add 1 false 255 1 false 1 w hp rfl rfl (I64_lit rfl) (I64_lit rfl)).mono fun _ _ ⟨he, hb⟩ => ⟨he.trans (by simp [wr, wrap64, cS, cG, cF, pS, pG]), hb⟩
theorem sDiv (w : World) (hp : PlainAt w) : Calls Tryd.prog 28 #[.int .i64 4, .agg #[.int .i64 4, .bool true], .int .i64 (-7), .agg #[.int .i64 4, .bool true], .int .i64 2] w fun e w' => e = .returned (.tuple #[.agg #[.int .i64 4, .bool true], .int .i64 (-3), .int .i64 0]) ∧ Below w.heap.size w w' :=
  (bin_div 4 true (-7) 4 true 2 w hp rfl rfl (I64_lit rfl) (I64_lit rfl) (by decide)).mono fun _ _ ⟨he, hb⟩ => ⟨he.trans (by simp [wr, wrap64, cS, cG, cF, pS, pG, qV]), hb⟩
theorem sShr (w : World) (hp : PlainAt w) : Calls Tryd.prog 28 #[.int .i64 10, .agg #[.int .i64 4, .bool true], .int .i64 (-5), .agg #[.int .i64 4, .bool true], .int .i64 1] w fun e w' => e = .returned (.tuple #[.agg #[.int .i64 4, .bool true], .int .i64 (-3), .int .i64 0]) ∧ Below w.heap.size w w' :=
  bin_shr 4 true (-5) 4 true 1 w hp rfl rfl (I64_lit rfl) (I64_lit rfl)

def bigS : ByteArray := ⟨#[49, 56, 52, 52, 54, 55, 52, 52, 48, 55, 51, 55, 48, 57, 53, 53, 49, 54, 49, 53]⟩
theorem txV_big : txV 8 false (-1) = bigS := by
  apply ba_ext
  have e : txL (nmN false (wr 8 false (-1))) (nmS false (wr 8 false (-1))).toNat = decL 18446744073709551615 := rfl
  unfold txV
  rw [e, decL_eq 20 _ (by decide)]
  rw [bts_strOf]
  · rfl
  · intro n hn
    have : ∀ x ∈ decF 20 18446744073709551615, 0 ≤ x ∧ x ≤ 255 := by decide
    exact this n hn
theorem sText (w : World) : Calls Tryd.prog 36 #[.agg #[.int .i64 8, .bool false], .int .i64 (-1)] w fun e w' => e = .returned (.tuple #[.string ⟨#[49, 56, 52, 52, 54, 55, 52, 52, 48, 55, 51, 55, 48, 57, 53, 53, 49, 54, 49, 53]⟩, .int .i64 0]) ∧ Below w.heap.size w w' := by
  rw [show (⟨#[49, 56, 52, 52, 54, 55, 52, 52, 48, 55, 51, 55, 48, 57, 53, 53, 49, 54, 49, 53]⟩ : ByteArray) = txV 8 false (-1) from txV_big.symm]; exact Text_c 8 false (-1) w rfl (I64_lit rfl)

def hexS : ByteArray := ⟨#[48, 120, 102, 102, 102, 102, 102, 102, 102, 102, 102, 102, 102, 102, 102, 102, 102, 102]⟩
theorem sHex (w : World) : Calls Tryd.prog 38 #[.agg #[.int .i64 8, .bool false], .string hexS] w fun e w' => e = .returned (.tuple #[.int .i64 (-1), .int .i64 0]) ∧ Below w.heap.size w w' := by
  have := Parse_c 8 false hexS w rfl (by decide)
  have h1 : rO hexS = true := by rw [rO_eq]; decide
  have h2 : rN hexS = false := by rw [rN_eq]; decide
  have h3 : rS hexS = 18446744073709551615 := by rw [rS_eq]; decide
  have e1 : pv 8 false hexS = -1 := by unfold pv; rw [h2, h3]; simp [wr, pat, wrap64]
  have e2 : pO 8 false hexS = true := by unfold pO; rw [h1, h2, h3, e1]; rfl
  rw [show pV 8 false hexS = -1 by unfold pV; rw [e2, e1]; rfl, show pE 8 false hexS = 0 by unfold pE; rw [e2]; rfl] at this
  exact this
def s128 : ByteArray := ⟨#[49, 50, 56]⟩
theorem s128_c (w : World) : Calls Tryd.prog 38 #[.agg #[.int .i64 1, .bool true], .string s128] w fun e w' => e = .returned (.tuple #[.int .i64 0, .int .i64 13]) ∧ Below w.heap.size w w' := by
  have := Parse_c 1 true s128 w rfl (by decide)
  have h2 : rN s128 = false := by rw [rN_eq]; decide
  have h3 : rS s128 = 128 := by rw [rS_eq]; decide
  have e1 : pv 1 true s128 = -128 := by unfold pv; rw [h2, h3]; simp [wr, pat, wrap64]
  have e2 : pO 1 true s128 = false := by unfold pO; rw [h2, h3, e1]; simp [nmN]
  rw [show pV 1 true s128 = 0 by unfold pV; rw [e2]; rfl, show pE 1 true s128 = 13 by unfold pE; rw [e2]; rfl] at this
  exact this
end Go.Proofs.YtfgmfkiknogdeaaDoor
