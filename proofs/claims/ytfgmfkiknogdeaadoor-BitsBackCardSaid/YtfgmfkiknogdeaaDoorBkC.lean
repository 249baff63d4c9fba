/- WHAT IS PROVED: ways of taplinelaw01.BitsBack, over what its calls answer. CONDITIONS: the package variable 'plain' holds the signed type of 4 bytes. -/
import Derived.Test.YtfgmfkiknogdeaaDoorBkA
namespace Go.Proofs.YtfgmfkiknogdeaaDoor
open Go Go.RowKit Go.QrBits
attribute [local go_sem] reg_cell reg_frozen reg_setCell reg_lt reg_lt_add reg_drew reg_of_drew quietR yieldsR

section
variable (n : Nat) (g : Bool) (v : Int) (str : ByteArray) (W z y : Int) (tx tx2 : ByteArray)
set_option maxHeartbeats 4000000 in
set_option maxRecDepth 100000 in
theorem back_m00 (w : World) (hp : PlainAt w) (h : vB (n : Int) = true) (hW : Gives 41 #[(.agg #[.int .i64 n, .bool g]), .int .i64 v] (.int .i64 W)) (hF : wr n g (wrap64 (fbS (byL n v))) = W) (hT : Gives 36 #[(.agg #[.int .i64 n, .bool g]), .int .i64 v] (.tuple #[.string tx, .int .i64 0])) (hP : Gives 38 #[(.agg #[.int .i64 n, .bool g]), .string tx] (.tuple #[.int .i64 W, .int .i64 0])) (hl : ((str.size : Int) == (n : Int)) = false) (hQ : Gives 38 #[(.agg #[.int .i64 n, .bool g]), .string str] (.tuple #[.int .i64 y, .int .i64 13])) : Calls Tryd.prog 9 #[.agg #[.int .i64 n, .bool g], .int .i64 v, .string str] w fun e w' => e = .returned (.bool true) ∧ Below w.heap.size w w' := by
  go_enter Tryd.func9, Tryd.ntmps9
  have HK := Known.start w
  go_wp2_with fail
  replace HK := HK.box (vs := [.int .i64 n, .bool g]) (t := 23)
  refine (sane_c _ (hp.below HK.base)).mono ?_
  rintro e w1 ⟨rfl, hq⟩
  replace HK := HK.below hq
  clear hq
  have A_0 := HK.get 0 0 rfl rfl
  have A_1 := HK.get 0 1 rfl rfl
  have A_s := HK.lt 0 rfl
  go_wp2_with fail
  clear A_0 A_1 A_s
  refine (check_c n g _ h).mono ?_
  rintro e w2 ⟨rfl, hq⟩
  replace HK := HK.below hq
  clear hq
  have A_0 := HK.get 0 0 rfl rfl
  have A_1 := HK.get 0 1 rfl rfl
  have A_s := HK.lt 0 rfl
  go_wp2_with fail
  clear A_0 A_1 A_s
  refine (hW.go (hp.below HK.base)).mono ?_
  rintro e w3 ⟨rfl, hq⟩
  replace HK := HK.below hq
  clear hq
  have A_0 := HK.get 0 0 rfl rfl
  have A_1 := HK.get 0 1 rfl rfl
  have A_s := HK.lt 0 rfl
  go_wp2_with fail
  clear A_0 A_1 A_s
  refine (bytes_c n g v _ h).mono ?_
  rintro e w4 ⟨B, rfl, hown, hq⟩
  replace HK := HK.below hq
  clear hq
  have HY := BytesAt.own hown (byL_ok n v) (own_lt hown h)
  clear hown
  have A_0 := HK.get 0 0 rfl rfl
  have A_1 := HK.get 0 1 rfl rfl
  have A_s := HK.lt 0 rfl
  go_wp2_with fail
  clear A_0 A_1 A_s
  refine (from_c n g B n (byL n v) _ h (byL_len n v) HY).mono ?_
  rintro e w5 ⟨rfl, hq⟩
  replace HK := HK.below hq
  clear hq
  clear HY
  rw [hF]
  have A_0 := HK.get 0 0 rfl rfl
  have A_1 := HK.get 0 1 rfl rfl
  have A_s := HK.lt 0 rfl
  go_wp2_with fail
  clear A_0 A_1 A_s
  refine (hT.go (hp.below HK.base)).mono ?_
  rintro e w6 ⟨rfl, hq⟩
  replace HK := HK.below hq
  clear hq
  have A_0 := HK.get 0 0 rfl rfl
  have A_1 := HK.get 0 1 rfl rfl
  have A_s := HK.lt 0 rfl
  go_wp2_with fail
  clear A_0 A_1 A_s
  refine (hP.go (hp.below HK.base)).mono ?_
  rintro e w7 ⟨rfl, hq⟩
  replace HK := HK.below hq
  clear hq
  have hcv := fun w => Lib.run_convert_string_bytes (P := Tryd.prog) w 9 48 5 str Tryd.underlying9 Tryd.underlying48 Tryd.underlying5
  have A_0 := HK.get 0 0 rfl rfl
  have A_1 := HK.get 0 1 rfl rfl
  have A_s := HK.lt 0 rfl
  go_wp2_with fail
  clear A_0 A_1 A_s
  clear hcv
  have hbw := bytesWorld_below w7 str
  replace HK := HK.below hbw
  refine (from_len n g _ _ _ _ h hl).mono ?_
  rintro e w8 ⟨rfl, hq⟩
  replace HK := HK.below hq
  clear hq hbw
  have A_0 := HK.get 0 0 rfl rfl
  have A_1 := HK.get 0 1 rfl rfl
  have A_s := HK.lt 0 rfl
  go_wp2_with fail
  clear A_0 A_1 A_s
  refine (hQ.go (hp.below HK.base)).mono ?_
  rintro e w9 ⟨rfl, hq⟩
  replace HK := HK.below hq
  clear hq
  have A_0 := HK.get 0 0 rfl rfl
  have A_1 := HK.get 0 1 rfl rfl
  have A_s := HK.lt 0 rfl
  go_wp2
  go_ret
  exact ⟨rfl, by repeat (first | exact HK.base | apply b_alloc)⟩
set_option maxHeartbeats 4000000 in
set_option maxRecDepth 100000 in
theorem back_m01 (w : World) (hp : PlainAt w) (h : vB (n : Int) = true) (hW : Gives 41 #[(.agg #[.int .i64 n, .bool g]), .int .i64 v] (.int .i64 W)) (hF : wr n g (wrap64 (fbS (byL n v))) = W) (hT : Gives 36 #[(.agg #[.int .i64 n, .bool g]), .int .i64 v] (.tuple #[.string tx, .int .i64 0])) (hP : Gives 38 #[(.agg #[.int .i64 n, .bool g]), .string tx] (.tuple #[.int .i64 W, .int .i64 0])) (hl : ((str.size : Int) == (n : Int)) = false) (hQ : Gives 38 #[(.agg #[.int .i64 n, .bool g]), .string str] (.tuple #[.int .i64 y, .int .i64 0])) (h1 : 1 < str.size) (hx : (str[1]'h1).toNat = 120) : Calls Tryd.prog 9 #[.agg #[.int .i64 n, .bool g], .int .i64 v, .string str] w fun e w' => e = .returned (.bool true) ∧ Below w.heap.size w w' := by
  go_enter Tryd.func9, Tryd.ntmps9
  have HK := Known.start w
  go_wp2_with fail
  replace HK := HK.box (vs := [.int .i64 n, .bool g]) (t := 23)
  refine (sane_c _ (hp.below HK.base)).mono ?_
  rintro e w1 ⟨rfl, hq⟩
  replace HK := HK.below hq
  clear hq
  have A_0 := HK.get 0 0 rfl rfl
  have A_1 := HK.get 0 1 rfl rfl
  have A_s := HK.lt 0 rfl
  go_wp2_with fail
  clear A_0 A_1 A_s
  refine (check_c n g _ h).mono ?_
  rintro e w2 ⟨rfl, hq⟩
  replace HK := HK.below hq
  clear hq
  have A_0 := HK.get 0 0 rfl rfl
  have A_1 := HK.get 0 1 rfl rfl
  have A_s := HK.lt 0 rfl
  go_wp2_with fail
  clear A_0 A_1 A_s
  refine (hW.go (hp.below HK.base)).mono ?_
  rintro e w3 ⟨rfl, hq⟩
  replace HK := HK.below hq
  clear hq
  have A_0 := HK.get 0 0 rfl rfl
  have A_1 := HK.get 0 1 rfl rfl
  have A_s := HK.lt 0 rfl
  go_wp2_with fail
  clear A_0 A_1 A_s
  refine (bytes_c n g v _ h).mono ?_
  rintro e w4 ⟨B, rfl, hown, hq⟩
  replace HK := HK.below hq
  clear hq
  have HY := BytesAt.own hown (byL_ok n v) (own_lt hown h)
  clear hown
  have A_0 := HK.get 0 0 rfl rfl
  have A_1 := HK.get 0 1 rfl rfl
  have A_s := HK.lt 0 rfl
  go_wp2_with fail
  clear A_0 A_1 A_s
  refine (from_c n g B n (byL n v) _ h (byL_len n v) HY).mono ?_
  rintro e w5 ⟨rfl, hq⟩
  replace HK := HK.below hq
  clear hq
  clear HY
  rw [hF]
  have A_0 := HK.get 0 0 rfl rfl
  have A_1 := HK.get 0 1 rfl rfl
  have A_s := HK.lt 0 rfl
  go_wp2_with fail
  clear A_0 A_1 A_s
  refine (hT.go (hp.below HK.base)).mono ?_
  rintro e w6 ⟨rfl, hq⟩
  replace HK := HK.below hq
  clear hq
  have A_0 := HK.get 0 0 rfl rfl
  have A_1 := HK.get 0 1 rfl rfl
  have A_s := HK.lt 0 rfl
  go_wp2_with fail
  clear A_0 A_1 A_s
  refine (hP.go (hp.below HK.base)).mono ?_
  rintro e w7 ⟨rfl, hq⟩
  replace HK := HK.below hq
  clear hq
  have hcv := fun w => Lib.run_convert_string_bytes (P := Tryd.prog) w 9 48 5 str Tryd.underlying9 Tryd.underlying48 Tryd.underlying5
  have A_0 := HK.get 0 0 rfl rfl
  have A_1 := HK.get 0 1 rfl rfl
  have A_s := HK.lt 0 rfl
  go_wp2_with fail
  clear A_0 A_1 A_s
  clear hcv
  have hbw := bytesWorld_below w7 str
  replace HK := HK.below hbw
  refine (from_len n g _ _ _ _ h hl).mono ?_
  rintro e w8 ⟨rfl, hq⟩
  replace HK := HK.below hq
  clear hq hbw
  have A_0 := HK.get 0 0 rfl rfl
  have A_1 := HK.get 0 1 rfl rfl
  have A_s := HK.lt 0 rfl
  go_wp2_with fail
  clear A_0 A_1 A_s
  refine (hQ.go (hp.below HK.base)).mono ?_
  rintro e w9 ⟨rfl, hq⟩
  replace HK := HK.below hq
  clear hq
  have hx1 : ((str[1]'h1).toNat : Int) = 120 := by omega
  have A_0 := HK.get 0 0 rfl rfl
  have A_1 := HK.get 0 1 rfl rfl
  have A_s := HK.lt 0 rfl
  go_wp2
  go_ret
  exact ⟨rfl, by repeat (first | exact HK.base | apply b_alloc)⟩
set_option maxHeartbeats 4000000 in
set_option maxRecDepth 100000 in
theorem back_m02 (w : World) (hp : PlainAt w) (h : vB (n : Int) = true) (hW : Gives 41 #[(.agg #[.int .i64 n, .bool g]), .int .i64 v] (.int .i64 W)) (hF : wr n g (wrap64 (fbS (byL n v))) = W) (hT : Gives 36 #[(.agg #[.int .i64 n, .bool g]), .int .i64 v] (.tuple #[.string tx, .int .i64 0])) (hP : Gives 38 #[(.agg #[.int .i64 n, .bool g]), .string tx] (.tuple #[.int .i64 W, .int .i64 0])) (hl : ((str.size : Int) == (n : Int)) = false) (hQ : Gives 38 #[(.agg #[.int .i64 n, .bool g]), .string str] (.tuple #[.int .i64 y, .int .i64 0])) (h1 : ¬ 1 < str.size) (hD : Gives 36 #[(.agg #[.int .i64 n, .bool g]), .int .i64 y] (.tuple #[.string str, .int .i64 0])) : Calls Tryd.prog 9 #[.agg #[.int .i64 n, .bool g], .int .i64 v, .string str] w fun e w' => e = .returned (.bool true) ∧ Below w.heap.size w w' := by
  go_enter Tryd.func9, Tryd.ntmps9
  have HK := Known.start w
  go_wp2_with fail
  replace HK := HK.box (vs := [.int .i64 n, .bool g]) (t := 23)
  refine (sane_c _ (hp.below HK.base)).mono ?_
  rintro e w1 ⟨rfl, hq⟩
  replace HK := HK.below hq
  clear hq
  have A_0 := HK.get 0 0 rfl rfl
  have A_1 := HK.get 0 1 rfl rfl
  have A_s := HK.lt 0 rfl
  go_wp2_with fail
  clear A_0 A_1 A_s
  refine (check_c n g _ h).mono ?_
  rintro e w2 ⟨rfl, hq⟩
  replace HK := HK.below hq
  clear hq
  have A_0 := HK.get 0 0 rfl rfl
  have A_1 := HK.get 0 1 rfl rfl
  have A_s := HK.lt 0 rfl
  go_wp2_with fail
  clear A_0 A_1 A_s
  refine (hW.go (hp.below HK.base)).mono ?_
  rintro e w3 ⟨rfl, hq⟩
  replace HK := HK.below hq
  clear hq
  have A_0 := HK.get 0 0 rfl rfl
  have A_1 := HK.get 0 1 rfl rfl
  have A_s := HK.lt 0 rfl
  go_wp2_with fail
  clear A_0 A_1 A_s
  refine (bytes_c n g v _ h).mono ?_
  rintro e w4 ⟨B, rfl, hown, hq⟩
  replace HK := HK.below hq
  clear hq
  have HY := BytesAt.own hown (byL_ok n v) (own_lt hown h)
  clear hown
  have A_0 := HK.get 0 0 rfl rfl
  have A_1 := HK.get 0 1 rfl rfl
  have A_s := HK.lt 0 rfl
  go_wp2_with fail
  clear A_0 A_1 A_s
  refine (from_c n g B n (byL n v) _ h (byL_len n v) HY).mono ?_
  rintro e w5 ⟨rfl, hq⟩
  replace HK := HK.below hq
  clear hq
  clear HY
  rw [hF]
  have A_0 := HK.get 0 0 rfl rfl
  have A_1 := HK.get 0 1 rfl rfl
  have A_s := HK.lt 0 rfl
  go_wp2_with fail
  clear A_0 A_1 A_s
  refine (hT.go (hp.below HK.base)).mono ?_
  rintro e w6 ⟨rfl, hq⟩
  replace HK := HK.below hq
  clear hq
  have A_0 := HK.get 0 0 rfl rfl
  have A_1 := HK.get 0 1 rfl rfl
  have A_s := HK.lt 0 rfl
  go_wp2_with fail
  clear A_0 A_1 A_s
  refine (hP.go (hp.below HK.base)).mono ?_
  rintro e w7 ⟨rfl, hq⟩
  replace HK := HK.below hq
  clear hq
  have hcv := fun w => Lib.run_convert_string_bytes (P := Tryd.prog) w 9 48 5 str Tryd.underlying9 Tryd.underlying48 Tryd.underlying5
  have A_0 := HK.get 0 0 rfl rfl
  have A_1 := HK.get 0 1 rfl rfl
  have A_s := HK.lt 0 rfl
  go_wp2_with fail
  clear A_0 A_1 A_s
  clear hcv
  have hbw := bytesWorld_below w7 str
  replace HK := HK.below hbw
  refine (from_len n g _ _ _ _ h hl).mono ?_
  rintro e w8 ⟨rfl, hq⟩
  replace HK := HK.below hq
  clear hq hbw
  have A_0 := HK.get 0 0 rfl rfl
  have A_1 := HK.get 0 1 rfl rfl
  have A_s := HK.lt 0 rfl
  go_wp2_with fail
  clear A_0 A_1 A_s
  refine (hQ.go (hp.below HK.base)).mono ?_
  rintro e w9 ⟨rfl, hq⟩
  replace HK := HK.below hq
  clear hq
  have A_0 := HK.get 0 0 rfl rfl
  have A_1 := HK.get 0 1 rfl rfl
  have A_s := HK.lt 0 rfl
  go_wp2_with fail
  clear A_0 A_1 A_s
  refine (hD.go (hp.below HK.base)).mono ?_
  rintro e w10 ⟨rfl, hq⟩
  replace HK := HK.below hq
  clear hq
  have A_0 := HK.get 0 0 rfl rfl
  have A_1 := HK.get 0 1 rfl rfl
  have A_s := HK.lt 0 rfl
  go_wp2
  go_ret
  exact ⟨rfl, by repeat (first | exact HK.base | apply b_alloc)⟩
set_option maxHeartbeats 4000000 in
set_option maxRecDepth 100000 in
theorem back_m03 (w : World) (hp : PlainAt w) (h : vB (n : Int) = true) (hW : Gives 41 #[(.agg #[.int .i64 n, .bool g]), .int .i64 v] (.int .i64 W)) (hF : wr n g (wrap64 (fbS (byL n v))) = W) (hT : Gives 36 #[(.agg #[.int .i64 n, .bool g]), .int .i64 v] (.tuple #[.string tx, .int .i64 0])) (hP : Gives 38 #[(.agg #[.int .i64 n, .bool g]), .string tx] (.tuple #[.int .i64 W, .int .i64 0])) (hl : ((str.size : Int) == (n : Int)) = false) (hQ : Gives 38 #[(.agg #[.int .i64 n, .bool g]), .string str] (.tuple #[.int .i64 y, .int .i64 0])) (h1 : 1 < str.size) (hx : ¬ (str[1]'h1).toNat = 120) (hD : Gives 36 #[(.agg #[.int .i64 n, .bool g]), .int .i64 y] (.tuple #[.string str, .int .i64 0])) : Calls Tryd.prog 9 #[.agg #[.int .i64 n, .bool g], .int .i64 v, .string str] w fun e w' => e = .returned (.bool true) ∧ Below w.heap.size w w' := by
  go_enter Tryd.func9, Tryd.ntmps9
  have HK := Known.start w
  go_wp2_with fail
  replace HK := HK.box (vs := [.int .i64 n, .bool g]) (t := 23)
  refine (sane_c _ (hp.below HK.base)).mono ?_
  rintro e w1 ⟨rfl, hq⟩
  replace HK := HK.below hq
  clear hq
  have A_0 := HK.get 0 0 rfl rfl
  have A_1 := HK.get 0 1 rfl rfl
  have A_s := HK.lt 0 rfl
  go_wp2_with fail
  clear A_0 A_1 A_s
  refine (check_c n g _ h).mono ?_
  rintro e w2 ⟨rfl, hq⟩
  replace HK := HK.below hq
  clear hq
  have A_0 := HK.get 0 0 rfl rfl
  have A_1 := HK.get 0 1 rfl rfl
  have A_s := HK.lt 0 rfl
  go_wp2_with fail
  clear A_0 A_1 A_s
  refine (hW.go (hp.below HK.base)).mono ?_
  rintro e w3 ⟨rfl, hq⟩
  replace HK := HK.below hq
  clear hq
  have A_0 := HK.get 0 0 rfl rfl
  have A_1 := HK.get 0 1 rfl rfl
  have A_s := HK.lt 0 rfl
  go_wp2_with fail
  clear A_0 A_1 A_s
  refine (bytes_c n g v _ h).mono ?_
  rintro e w4 ⟨B, rfl, hown, hq⟩
  replace HK := HK.below hq
  clear hq
  have HY := BytesAt.own hown (byL_ok n v) (own_lt hown h)
  clear hown
  have A_0 := HK.get 0 0 rfl rfl
  have A_1 := HK.get 0 1 rfl rfl
  have A_s := HK.lt 0 rfl
  go_wp2_with fail
  clear A_0 A_1 A_s
  refine (from_c n g B n (byL n v) _ h (byL_len n v) HY).mono ?_
  rintro e w5 ⟨rfl, hq⟩
  replace HK := HK.below hq
  clear hq
  clear HY
  rw [hF]
  have A_0 := HK.get 0 0 rfl rfl
  have A_1 := HK.get 0 1 rfl rfl
  have A_s := HK.lt 0 rfl
  go_wp2_with fail
  clear A_0 A_1 A_s
  refine (hT.go (hp.below HK.base)).mono ?_
  rintro e w6 ⟨rfl, hq⟩
  replace HK := HK.below hq
  clear hq
  have A_0 := HK.get 0 0 rfl rfl
  have A_1 := HK.get 0 1 rfl rfl
  have A_s := HK.lt 0 rfl
  go_wp2_with fail
  clear A_0 A_1 A_s
  refine (hP.go (hp.below HK.base)).mono ?_
  rintro e w7 ⟨rfl, hq⟩
  replace HK := HK.below hq
  clear hq
  have hcv := fun w => Lib.run_convert_string_bytes (P := Tryd.prog) w 9 48 5 str Tryd.underlying9 Tryd.underlying48 Tryd.underlying5
  have A_0 := HK.get 0 0 rfl rfl
  have A_1 := HK.get 0 1 rfl rfl
  have A_s := HK.lt 0 rfl
  go_wp2_with fail
  clear A_0 A_1 A_s
  clear hcv
  have hbw := bytesWorld_below w7 str
  replace HK := HK.below hbw
  refine (from_len n g _ _ _ _ h hl).mono ?_
  rintro e w8 ⟨rfl, hq⟩
  replace HK := HK.below hq
  clear hq hbw
  have A_0 := HK.get 0 0 rfl rfl
  have A_1 := HK.get 0 1 rfl rfl
  have A_s := HK.lt 0 rfl
  go_wp2_with fail
  clear A_0 A_1 A_s
  refine (hQ.go (hp.below HK.base)).mono ?_
  rintro e w9 ⟨rfl, hq⟩
  replace HK := HK.below hq
  clear hq
  have hx1 : ((((str[1]'h1).toNat : Int)) == 120) = false := by rw [beq_eq_false_iff_ne]; omega
  have A_0 := HK.get 0 0 rfl rfl
  have A_1 := HK.get 0 1 rfl rfl
  have A_s := HK.lt 0 rfl
  go_wp2_with fail
  clear A_0 A_1 A_s
  refine (hD.go (hp.below HK.base)).mono ?_
  rintro e w10 ⟨rfl, hq⟩
  replace HK := HK.below hq
  clear hq
  have A_0 := HK.get 0 0 rfl rfl
  have A_1 := HK.get 0 1 rfl rfl
  have A_s := HK.lt 0 rfl
  go_wp2
  go_ret
  exact ⟨rfl, by repeat (first | exact HK.base | apply b_alloc)⟩
end
end Go.Proofs.YtfgmfkiknogdeaaDoor
