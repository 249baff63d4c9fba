/- WHAT IS PROVED: ways of taplinelaw01.BitsForms. CONDITIONS: the package variable 'plain' holds the signed type of 4 bytes. -/
import Derived.Test.YtfgmfkiknogdeaaDoorFo8
import Derived.Test.YtfgmfkiknogdeaaDoorDvW
import Derived.Test.YtfgmfkiknogdeaaDoorConW
namespace Go.Proofs.YtfgmfkiknogdeaaDoor
open Go Go.RowKit Go.QrBits
attribute [local go_sem] reg_cell reg_frozen reg_setCell reg_lt reg_lt_add reg_drew reg_of_drew quietR yieldsR

set_option maxHeartbeats 4000000 in
set_option maxRecDepth 100000 in
theorem forms_no (s : Int) (g : Bool) (l0 l1 : Int) (str : ByteArray) (w : World) (hp : PlainAt w) (i0 : I64 l0) (i1 : I64 l1) (hs : str.size ≤ maxLen) (h : vB s = false) : Calls Tryd.prog 5 #[.agg #[.int .i64 s, .bool g], .agg #[.int .i64 l0, .int .i64 l1], .string str] w fun e w' => e = .returned (.bool true) ∧ Below w.heap.size w w' := by
  have hh := And.intro i0 (And.intro i1 hs)
  clear hh
  have HS := Lib.hid hs
  have I0 := Lib.hid i0
  have I1 := Lib.hid i1
  clear hs i0 i1
  go_enter Tryd.func5, Tryd.ntmps5
  have HK := Known.start w
  go_wp2_with fail
  replace HK := HK.box (vs := [.int .i64 s, .bool g]) (t := 23)
  replace HK := HK.box (vs := [.int .i64 l0, .int .i64 l1]) (t := 37)
  simp only [World.size_alloc] at HK
  refine (sane_c _ (hp.below HK.base)).mono ?_
  rintro e w1 ⟨rfl, hq⟩
  replace HK := HK.below hq
  clear hq
  have L_0 := HK.get 0 0 rfl rfl
  have L_1 := HK.get 0 1 rfl rfl
  have L_s := HK.lt 0 rfl
  have A_0 := HK.get 1 0 rfl rfl
  have A_1 := HK.get 1 1 rfl rfl
  have A_s := HK.lt 1 rfl
  go_wp2_with fail
  clear L_0 L_1 L_s A_0 A_1 A_s
  refine (Compare_no s g l0 l1 _ h).mono ?_
  rintro e w2 ⟨rfl, hq⟩
  replace HK := HK.below hq
  clear hq
  have L_0 := HK.get 0 0 rfl rfl
  have L_1 := HK.get 0 1 rfl rfl
  have L_s := HK.lt 0 rfl
  have A_0 := HK.get 1 0 rfl rfl
  have A_1 := HK.get 1 1 rfl rfl
  have A_s := HK.lt 1 rfl
  go_wp2_with fail
  clear L_0 L_1 L_s A_0 A_1 A_s
  refine (rCompare_no s g l0 l1 _ h).mono ?_
  rintro e w3 ⟨rfl, hq⟩
  replace HK := HK.below hq
  clear hq
  have L_0 := HK.get 0 0 rfl rfl
  have L_1 := HK.get 0 1 rfl rfl
  have L_s := HK.lt 0 rfl
  have A_0 := HK.get 1 0 rfl rfl
  have A_1 := HK.get 1 1 rfl rfl
  have A_s := HK.lt 1 rfl
  go_wp2_with fail
  clear L_0 L_1 L_s A_0 A_1 A_s
  refine (bytes_no s g l0 _ h).mono ?_
  rintro e w4 ⟨rfl, hq⟩
  replace HK := HK.below hq
  clear hq
  have L_0 := HK.get 0 0 rfl rfl
  have L_1 := HK.get 0 1 rfl rfl
  have L_s := HK.lt 0 rfl
  have A_0 := HK.get 1 0 rfl rfl
  have A_1 := HK.get 1 1 rfl rfl
  have A_s := HK.lt 1 rfl
  go_wp2_with fail
  clear L_0 L_1 L_s A_0 A_1 A_s
  refine (rBytes_no s g l0 _ h).mono ?_
  rintro e w5 ⟨rfl, hq⟩
  replace HK := HK.below hq
  clear hq
  have hcv := fun w => Lib.run_convert_string_bytes (P := Tryd.prog) w 9 48 5 str Tryd.underlying9 Tryd.underlying48 Tryd.underlying5
  have L_0 := HK.get 0 0 rfl rfl
  have L_1 := HK.get 0 1 rfl rfl
  have L_s := HK.lt 0 rfl
  have A_0 := HK.get 1 0 rfl rfl
  have A_1 := HK.get 1 1 rfl rfl
  have A_s := HK.lt 1 rfl
  go_wp2_with fail
  clear L_0 L_1 L_s A_0 A_1 A_s
  clear hcv
  have hbw := bytesWorld_below w5 str
  replace HK := HK.below hbw
  refine (from_no s g _ _ _ _ h).mono ?_
  rintro e w6 ⟨rfl, hq⟩
  replace HK := HK.below hq
  clear hq hbw
  have hcv := fun w => Lib.run_convert_string_bytes (P := Tryd.prog) w 9 48 5 str Tryd.underlying9 Tryd.underlying48 Tryd.underlying5
  have L_0 := HK.get 0 0 rfl rfl
  have L_1 := HK.get 0 1 rfl rfl
  have L_s := HK.lt 0 rfl
  have A_0 := HK.get 1 0 rfl rfl
  have A_1 := HK.get 1 1 rfl rfl
  have A_s := HK.lt 1 rfl
  go_wp2_with fail
  clear L_0 L_1 L_s A_0 A_1 A_s
  clear hcv
  have hbw := bytesWorld_below w6 str
  replace HK := HK.below hbw
  refine (rFrom_no s g _ _ _ _ h).mono ?_
  rintro e w7 ⟨rfl, hq⟩
  replace HK := HK.below hq
  clear hq hbw
  have L_0 := HK.get 0 0 rfl rfl
  have L_1 := HK.get 0 1 rfl rfl
  have L_s := HK.lt 0 rfl
  have A_0 := HK.get 1 0 rfl rfl
  have A_1 := HK.get 1 1 rfl rfl
  have A_s := HK.lt 1 rfl
  go_wp2_with fail
  clear L_0 L_1 L_s A_0 A_1 A_s
  refine (Text_no s g l0 _ h).mono ?_
  rintro e w8 ⟨rfl, hq⟩
  replace HK := HK.below hq
  clear hq
  have L_0 := HK.get 0 0 rfl rfl
  have L_1 := HK.get 0 1 rfl rfl
  have L_s := HK.lt 0 rfl
  have A_0 := HK.get 1 0 rfl rfl
  have A_1 := HK.get 1 1 rfl rfl
  have A_s := HK.lt 1 rfl
  go_wp2_with fail
  clear L_0 L_1 L_s A_0 A_1 A_s
  refine (rText_no s g l0 _ h).mono ?_
  rintro e w9 ⟨rfl, hq⟩
  replace HK := HK.below hq
  clear hq
  have L_0 := HK.get 0 0 rfl rfl
  have L_1 := HK.get 0 1 rfl rfl
  have L_s := HK.lt 0 rfl
  have A_0 := HK.get 1 0 rfl rfl
  have A_1 := HK.get 1 1 rfl rfl
  have A_s := HK.lt 1 rfl
  go_wp2_with fail
  clear L_0 L_1 L_s A_0 A_1 A_s
  refine (Parse_no s g str _ h).mono ?_
  rintro e w10 ⟨rfl, hq⟩
  replace HK := HK.below hq
  clear hq
  have L_0 := HK.get 0 0 rfl rfl
  have L_1 := HK.get 0 1 rfl rfl
  have L_s := HK.lt 0 rfl
  have A_0 := HK.get 1 0 rfl rfl
  have A_1 := HK.get 1 1 rfl rfl
  have A_s := HK.lt 1 rfl
  go_wp2_with fail
  clear L_0 L_1 L_s A_0 A_1 A_s
  refine (rParse_no s g str _ h).mono ?_
  rintro e w11 ⟨rfl, hq⟩
  replace HK := HK.below hq
  clear hq
  have hn1 := str_nil w11
  have L_0 := HK.get 0 0 rfl rfl
  have L_1 := HK.get 0 1 rfl rfl
  have L_s := HK.lt 0 rfl
  have A_0 := HK.get 1 0 rfl rfl
  have A_1 := HK.get 1 1 rfl rfl
  have A_s := HK.lt 1 rfl
  go_wp2
  go_ret
  exact ⟨rfl, by repeat (first | exact HK.base | apply b_alloc)⟩
set_option maxHeartbeats 4000000 in
set_option maxRecDepth 100000 in
theorem forms_ne (n : Nat) (g : Bool) (l0 l1 : Int) (str : ByteArray) (w : World) (hp : PlainAt w) (i0 : I64 l0) (i1 : I64 l1) (hs : str.size ≤ maxLen) (h : vB (n : Int) = true) (hl : ((str.size : Int) == (n : Int)) = false) : Calls Tryd.prog 5 #[.agg #[.int .i64 n, .bool g], .agg #[.int .i64 l0, .int .i64 l1], .string str] w fun e w' => e = .returned (.bool true) ∧ Below w.heap.size w w' := by
  have hh := And.intro i0 (And.intro i1 hs)
  clear hh
  have HS := Lib.hid hs
  have I0 := Lib.hid i0
  have I1 := Lib.hid i1
  clear hs i0 i1
  go_enter Tryd.func5, Tryd.ntmps5
  have HK := Known.start w
  go_wp2_with fail
  replace HK := HK.box (vs := [.int .i64 n, .bool g]) (t := 23)
  replace HK := HK.box (vs := [.int .i64 l0, .int .i64 l1]) (t := 37)
  simp only [World.size_alloc] at HK
  refine (sane_c _ (hp.below HK.base)).mono ?_
  rintro e w1 ⟨rfl, hq⟩
  replace HK := HK.below hq
  clear hq
  have L_0 := HK.get 0 0 rfl rfl
  have L_1 := HK.get 0 1 rfl rfl
  have L_s := HK.lt 0 rfl
  have A_0 := HK.get 1 0 rfl rfl
  have A_1 := HK.get 1 1 rfl rfl
  have A_s := HK.lt 1 rfl
  go_wp2_with fail
  clear L_0 L_1 L_s A_0 A_1 A_s
  refine (Compare_c n g l0 l1 _ h I0.out I1.out).mono ?_
  rintro e w2 ⟨rfl, hq⟩
  replace HK := HK.below hq
  clear hq
  have L_0 := HK.get 0 0 rfl rfl
  have L_1 := HK.get 0 1 rfl rfl
  have L_s := HK.lt 0 rfl
  have A_0 := HK.get 1 0 rfl rfl
  have A_1 := HK.get 1 1 rfl rfl
  have A_s := HK.lt 1 rfl
  go_wp2_with fail
  clear L_0 L_1 L_s A_0 A_1 A_s
  refine (rCompare_c n g l0 l1 _ h I0.out I1.out).mono ?_
  rintro e w3 ⟨rfl, hq⟩
  replace HK := HK.below hq
  clear hq
  have L_0 := HK.get 0 0 rfl rfl
  have L_1 := HK.get 0 1 rfl rfl
  have L_s := HK.lt 0 rfl
  have A_0 := HK.get 1 0 rfl rfl
  have A_1 := HK.get 1 1 rfl rfl
  have A_s := HK.lt 1 rfl
  go_wp2_with fail
  clear L_0 L_1 L_s A_0 A_1 A_s
  refine (bytes_c n g l0 _ h).mono ?_
  rintro e w4 ⟨B, rfl, hown, hq⟩
  replace HK := HK.below hq
  clear hq
  have HB := BytesAt.own' hown (byL_ok n l0)
  clear hown
  have L_0 := HK.get 0 0 rfl rfl
  have L_1 := HK.get 0 1 rfl rfl
  have L_s := HK.lt 0 rfl
  have A_0 := HK.get 1 0 rfl rfl
  have A_1 := HK.get 1 1 rfl rfl
  have A_s := HK.lt 1 rfl
  go_wp2_with fail
  clear L_0 L_1 L_s A_0 A_1 A_s
  refine (rbytes_c n g l0 _ h I0.out).mono ?_
  rintro e w5 ⟨Y, cap, rfl, hown, hq⟩
  replace HK := HK.below hq
  replace HB := HB.below hq
  clear hq
  have HR := BytesAt.own' hown (byL_ok n l0)
  clear hown
  have hcv := fun w => Lib.run_convert_string_bytes (P := Tryd.prog) w 9 48 5 str Tryd.underlying9 Tryd.underlying48 Tryd.underlying5
  have L_0 := HK.get 0 0 rfl rfl
  have L_1 := HK.get 0 1 rfl rfl
  have L_s := HK.lt 0 rfl
  have A_0 := HK.get 1 0 rfl rfl
  have A_1 := HK.get 1 1 rfl rfl
  have A_s := HK.lt 1 rfl
  go_wp2_with fail
  clear L_0 L_1 L_s A_0 A_1 A_s
  clear hcv
  have hbw := bytesWorld_below w5 str
  replace HK := HK.below hbw
  replace HB := HB.below hbw
  replace HR := HR.below hbw
  refine (from_len n g _ _ _ _ h hl).mono ?_
  rintro e w6 ⟨rfl, hq⟩
  replace HK := HK.below hq
  replace HB := HB.below hq
  replace HR := HR.below hq
  clear hq hbw
  have hcv := fun w => Lib.run_convert_string_bytes (P := Tryd.prog) w 9 48 5 str Tryd.underlying9 Tryd.underlying48 Tryd.underlying5
  have L_0 := HK.get 0 0 rfl rfl
  have L_1 := HK.get 0 1 rfl rfl
  have L_s := HK.lt 0 rfl
  have A_0 := HK.get 1 0 rfl rfl
  have A_1 := HK.get 1 1 rfl rfl
  have A_s := HK.lt 1 rfl
  go_wp2_with fail
  clear L_0 L_1 L_s A_0 A_1 A_s
  clear hcv
  have hbw := bytesWorld_below w6 str
  replace HK := HK.below hbw
  replace HB := HB.below hbw
  replace HR := HR.below hbw
  refine (rFrom_len n g _ _ _ _ h hl).mono ?_
  rintro e w7 ⟨rfl, hq⟩
  replace HK := HK.below hq
  replace HB := HB.below hq
  replace HR := HR.below hq
  clear hq hbw
  have L_0 := HK.get 0 0 rfl rfl
  have L_1 := HK.get 0 1 rfl rfl
  have L_s := HK.lt 0 rfl
  have A_0 := HK.get 1 0 rfl rfl
  have A_1 := HK.get 1 1 rfl rfl
  have A_s := HK.lt 1 rfl
  go_wp2_with fail
  clear L_0 L_1 L_s A_0 A_1 A_s
  refine (Text_c n g l0 _ h I0.out).mono ?_
  rintro e w8 ⟨rfl, hq⟩
  replace HK := HK.below hq
  replace HB := HB.below hq
  replace HR := HR.below hq
  clear hq
  have L_0 := HK.get 0 0 rfl rfl
  have L_1 := HK.get 0 1 rfl rfl
  have L_s := HK.lt 0 rfl
  have A_0 := HK.get 1 0 rfl rfl
  have A_1 := HK.get 1 1 rfl rfl
  have A_s := HK.lt 1 rfl
  go_wp2_with fail
  clear L_0 L_1 L_s A_0 A_1 A_s
  refine (rText_c n g l0 _ h I0.out).mono ?_
  rintro e w9 ⟨rfl, hq⟩
  replace HK := HK.below hq
  replace HB := HB.below hq
  replace HR := HR.below hq
  clear hq
  have L_0 := HK.get 0 0 rfl rfl
  have L_1 := HK.get 0 1 rfl rfl
  have L_s := HK.lt 0 rfl
  have A_0 := HK.get 1 0 rfl rfl
  have A_1 := HK.get 1 1 rfl rfl
  have A_s := HK.lt 1 rfl
  go_wp2_with fail
  clear L_0 L_1 L_s A_0 A_1 A_s
  refine (Parse_c n g str _ h HS.out).mono ?_
  rintro e w10 ⟨rfl, hq⟩
  replace HK := HK.below hq
  replace HB := HB.below hq
  replace HR := HR.below hq
  clear hq
  have L_0 := HK.get 0 0 rfl rfl
  have L_1 := HK.get 0 1 rfl rfl
  have L_s := HK.lt 0 rfl
  have A_0 := HK.get 1 0 rfl rfl
  have A_1 := HK.get 1 1 rfl rfl
  have A_s := HK.lt 1 rfl
  go_wp2_with fail
  clear L_0 L_1 L_s A_0 A_1 A_s
  refine (rParse_c n g str h HS.out _).mono ?_
  rintro e w11 ⟨rfl, hq⟩
  replace HK := HK.below hq
  replace HB := HB.below hq
  replace HR := HR.below hq
  clear hq
  have hn1 := str_at HB (byL_len n l0) (cap := n)
  have hn2 := str_at HR (byL_len n l0) (cap := cap)
  clear HB HR
  have L_0 := HK.get 0 0 rfl rfl
  have L_1 := HK.get 0 1 rfl rfl
  have L_s := HK.lt 0 rfl
  have A_0 := HK.get 1 0 rfl rfl
  have A_1 := HK.get 1 1 rfl rfl
  have A_s := HK.lt 1 rfl
  go_wp2
  go_ret
  exact ⟨rfl, by repeat (first | exact HK.base | apply b_alloc)⟩
set_option maxHeartbeats 4000000 in
set_option maxRecDepth 100000 in
theorem forms_eq (n : Nat) (g : Bool) (l0 l1 : Int) (str : ByteArray) (w : World) (hp : PlainAt w) (i0 : I64 l0) (i1 : I64 l1) (hs : str.size ≤ maxLen) (h : vB (n : Int) = true) (hl : str.size = n) : Calls Tryd.prog 5 #[.agg #[.int .i64 n, .bool g], .agg #[.int .i64 l0, .int .i64 l1], .string str] w fun e w' => e = .returned (.bool true) ∧ Below w.heap.size w w' := by
  have hh := And.intro i0 (And.intro i1 hs)
  clear hh
  have HS := Lib.hid hs
  have I0 := Lib.hid i0
  have I1 := Lib.hid i1
  clear hs i0 i1
  have HL := Lib.hid hl
  clear hl
  go_enter Tryd.func5, Tryd.ntmps5
  have HK := Known.start w
  go_wp2_with fail
  replace HK := HK.box (vs := [.int .i64 n, .bool g]) (t := 23)
  replace HK := HK.box (vs := [.int .i64 l0, .int .i64 l1]) (t := 37)
  simp only [World.size_alloc] at HK
  refine (sane_c _ (hp.below HK.base)).mono ?_
  rintro e w1 ⟨rfl, hq⟩
  replace HK := HK.below hq
  clear hq
  have L_0 := HK.get 0 0 rfl rfl
  have L_1 := HK.get 0 1 rfl rfl
  have L_s := HK.lt 0 rfl
  have A_0 := HK.get 1 0 rfl rfl
  have A_1 := HK.get 1 1 rfl rfl
  have A_s := HK.lt 1 rfl
  go_wp2_with fail
  clear L_0 L_1 L_s A_0 A_1 A_s
  refine (Compare_c n g l0 l1 _ h I0.out I1.out).mono ?_
  rintro e w2 ⟨rfl, hq⟩
  replace HK := HK.below hq
  clear hq
  have L_0 := HK.get 0 0 rfl rfl
  have L_1 := HK.get 0 1 rfl rfl
  have L_s := HK.lt 0 rfl
  have A_0 := HK.get 1 0 rfl rfl
  have A_1 := HK.get 1 1 rfl rfl
  have A_s := HK.lt 1 rfl
  go_wp2_with fail
  clear L_0 L_1 L_s A_0 A_1 A_s
  refine (rCompare_c n g l0 l1 _ h I0.out I1.out).mono ?_
  rintro e w3 ⟨rfl, hq⟩
  replace HK := HK.below hq
  clear hq
  have L_0 := HK.get 0 0 rfl rfl
  have L_1 := HK.get 0 1 rfl rfl
  have L_s := HK.lt 0 rfl
  have A_0 := HK.get 1 0 rfl rfl
  have A_1 := HK.get 1 1 rfl rfl
  have A_s := HK.lt 1 rfl
  go_wp2_with fail
  clear L_0 L_1 L_s A_0 A_1 A_s
  refine (bytes_c n g l0 _ h).mono ?_
  rintro e w4 ⟨B, rfl, hown, hq⟩
  replace HK := HK.below hq
  clear hq
  have HB := BytesAt.own' hown (byL_ok n l0)
  clear hown
  have L_0 := HK.get 0 0 rfl rfl
  have L_1 := HK.get 0 1 rfl rfl
  have L_s := HK.lt 0 rfl
  have A_0 := HK.get 1 0 rfl rfl
  have A_1 := HK.get 1 1 rfl rfl
  have A_s := HK.lt 1 rfl
  go_wp2_with fail
  clear L_0 L_1 L_s A_0 A_1 A_s
  refine (rbytes_c n g l0 _ h I0.out).mono ?_
  rintro e w5 ⟨Y, cap, rfl, hown, hq⟩
  replace HK := HK.below hq
  replace HB := HB.below hq
  clear hq
  have HR := BytesAt.own' hown (byL_ok n l0)
  clear hown
  have hcv := fun w => Lib.run_convert_string_bytes (P := Tryd.prog) w 9 48 5 str Tryd.underlying9 Tryd.underlying48 Tryd.underlying5
  have L_0 := HK.get 0 0 rfl rfl
  have L_1 := HK.get 0 1 rfl rfl
  have L_s := HK.lt 0 rfl
  have A_0 := HK.get 1 0 rfl rfl
  have A_1 := HK.get 1 1 rfl rfl
  have A_s := HK.lt 1 rfl
  go_wp2_with fail
  clear L_0 L_1 L_s A_0 A_1 A_s
  clear hcv
  have hbw := bytesWorld_below w5 str
  have HY : BytesAt (Lib.bytesWorld w5 5 str) w5.heap.size (bts str) := bytesAt_str w5 str
  replace HK := HK.below hbw
  replace HB := HB.below hbw
  replace HR := HR.below hbw
  refine (from_s n g _ _ str _ h HL.out HY).mono ?_
  rintro e w6 ⟨rfl, hq⟩
  replace HK := HK.below hq
  replace HB := HB.below hq
  replace HR := HR.below hq
  clear hq hbw HY
  have hcv := fun w => Lib.run_convert_string_bytes (P := Tryd.prog) w 9 48 5 str Tryd.underlying9 Tryd.underlying48 Tryd.underlying5
  have L_0 := HK.get 0 0 rfl rfl
  have L_1 := HK.get 0 1 rfl rfl
  have L_s := HK.lt 0 rfl
  have A_0 := HK.get 1 0 rfl rfl
  have A_1 := HK.get 1 1 rfl rfl
  have A_s := HK.lt 1 rfl
  go_wp2_with fail
  clear L_0 L_1 L_s A_0 A_1 A_s
  clear hcv
  have hbw := bytesWorld_below w6 str
  have HY : BytesAt (Lib.bytesWorld w6 5 str) w6.heap.size (bts str) := bytesAt_str w6 str
  replace HK := HK.below hbw
  replace HB := HB.below hbw
  replace HR := HR.below hbw
  refine (rfrom_s n g _ _ str _ h HL.out HY).mono ?_
  rintro e w7 ⟨rfl, hq⟩
  replace HK := HK.below hq
  replace HB := HB.below hq
  replace HR := HR.below hq
  clear hq hbw HY
  have L_0 := HK.get 0 0 rfl rfl
  have L_1 := HK.get 0 1 rfl rfl
  have L_s := HK.lt 0 rfl
  have A_0 := HK.get 1 0 rfl rfl
  have A_1 := HK.get 1 1 rfl rfl
  have A_s := HK.lt 1 rfl
  go_wp2_with fail
  clear L_0 L_1 L_s A_0 A_1 A_s
  refine (Text_c n g l0 _ h I0.out).mono ?_
  rintro e w8 ⟨rfl, hq⟩
  replace HK := HK.below hq
  replace HB := HB.below hq
  replace HR := HR.below hq
  clear hq
  have L_0 := HK.get 0 0 rfl rfl
  have L_1 := HK.get 0 1 rfl rfl
  have L_s := HK.lt 0 rfl
  have A_0 := HK.get 1 0 rfl rfl
  have A_1 := HK.get 1 1 rfl rfl
  have A_s := HK.lt 1 rfl
  go_wp2_with fail
  clear L_0 L_1 L_s A_0 A_1 A_s
  refine (rText_c n g l0 _ h I0.out).mono ?_
  rintro e w9 ⟨rfl, hq⟩
  replace HK := HK.below hq
  replace HB := HB.below hq
  replace HR := HR.below hq
  clear hq
  have L_0 := HK.get 0 0 rfl rfl
  have L_1 := HK.get 0 1 rfl rfl
  have L_s := HK.lt 0 rfl
  have A_0 := HK.get 1 0 rfl rfl
  have A_1 := HK.get 1 1 rfl rfl
  have A_s := HK.lt 1 rfl
  go_wp2_with fail
  clear L_0 L_1 L_s A_0 A_1 A_s
  refine (Parse_c n g str _ h HS.out).mono ?_
  rintro e w10 ⟨rfl, hq⟩
  replace HK := HK.below hq
  replace HB := HB.below hq
  replace HR := HR.below hq
  clear hq
  have L_0 := HK.get 0 0 rfl rfl
  have L_1 := HK.get 0 1 rfl rfl
  have L_s := HK.lt 0 rfl
  have A_0 := HK.get 1 0 rfl rfl
  have A_1 := HK.get 1 1 rfl rfl
  have A_s := HK.lt 1 rfl
  go_wp2_with fail
  clear L_0 L_1 L_s A_0 A_1 A_s
  refine (rParse_c n g str h HS.out _).mono ?_
  rintro e w11 ⟨rfl, hq⟩
  replace HK := HK.below hq
  replace HB := HB.below hq
  replace HR := HR.below hq
  clear hq
  have hn1 := str_at HB (byL_len n l0) (cap := n)
  have hn2 := str_at HR (byL_len n l0) (cap := cap)
  clear HB HR
  have L_0 := HK.get 0 0 rfl rfl
  have L_1 := HK.get 0 1 rfl rfl
  have L_s := HK.lt 0 rfl
  have A_0 := HK.get 1 0 rfl rfl
  have A_1 := HK.get 1 1 rfl rfl
  have A_s := HK.lt 1 rfl
  go_wp2
  go_ret
  exact ⟨rfl, by repeat (first | exact HK.base | apply b_alloc)⟩
theorem forms_walk (s : Int) (g : Bool) (l0 l1 : Int) (str : ByteArray) (w : World) (hp : PlainAt w) (i0 : I64 l0) (i1 : I64 l1) (hs : str.size ≤ maxLen) : Calls Tryd.prog 5 #[.agg #[.int .i64 s, .bool g], .agg #[.int .i64 l0, .int .i64 l1], .string str] w fun e w' => e = .returned (.bool true) ∧ Below w.heap.size w w' := by
  cases h : vB s
  · exact forms_no s g l0 l1 str w hp i0 i1 hs h
  obtain ⟨n, rfl⟩ : ∃ n : Nat, s = n := by
    rcases vB_cases h with e | e | e | e
    · exact ⟨1, e⟩
    · exact ⟨2, e⟩
    · exact ⟨4, e⟩
    · exact ⟨8, e⟩
  by_cases hl : str.size = n
  · exact forms_eq n g l0 l1 str w hp i0 i1 hs h hl
  · exact forms_ne n g l0 l1 str w hp i0 i1 hs h (beq_eq_false_iff_ne.2 (by omega))
end Go.Proofs.YtfgmfkiknogdeaaDoor
