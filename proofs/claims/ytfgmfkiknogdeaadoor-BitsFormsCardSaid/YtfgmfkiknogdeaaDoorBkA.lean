/- WHAT IS PROVED: ways of taplinelaw01.BitsBack, over what its calls answer. CONDITIONS: the package variable 'plain' holds the signed type of 4 bytes. -/
import Derived.Test.YtfgmfkiknogdeaaDoorBz
import Derived.Test.YtfgmfkiknogdeaaDoorBt
import Derived.Test.YtfgmfkiknogdeaaDoorDvW
import Derived.Test.YtfgmfkiknogdeaaDoorConW
namespace Go.Proofs.YtfgmfkiknogdeaaDoor
open Go Go.RowKit Go.QrBits
attribute [local go_sem] reg_cell reg_frozen reg_setCell reg_lt reg_lt_add reg_drew reg_of_drew quietR yieldsR

theorem Gives.go {f : Nat} {args : Array Value} {v : Value} (h : Gives f args v) {w : World} (hp : PlainAt w) : Calls Tryd.prog f args w fun e w' => e = .returned v ∧ Below w.heap.size w w' := h w hp
section
variable (s : Int) (g : Bool) (v : Int) (str : ByteArray)
set_option maxHeartbeats 4000000 in
set_option maxRecDepth 100000 in
theorem back_w1 (w : World) (hp : PlainAt w) (h : vB s = false) : Calls Tryd.prog 9 #[.agg #[.int .i64 s, .bool g], .int .i64 v, .string str] w fun e w' => e = .returned (.bool true) ∧ Below w.heap.size w w' := by
  go_enter Tryd.func9, Tryd.ntmps9
  have HK := Known.start w
  go_wp2_with fail
  replace HK := HK.box (vs := [.int .i64 s, .bool g]) (t := 23)
  refine (sane_c _ (hp.below HK.base)).mono ?_
  rintro e w1 ⟨rfl, hq⟩
  replace HK := HK.below hq
  clear hq
  have A_0 := HK.get 0 0 rfl rfl
  have A_1 := HK.get 0 1 rfl rfl
  have A_s := HK.lt 0 rfl
  go_wp2_with fail
  clear A_0 A_1 A_s
  refine (check_no s g _ h).mono ?_
  rintro e w2 ⟨rfl, hq⟩
  replace HK := HK.below hq
  clear hq
  have A_0 := HK.get 0 0 rfl rfl
  have A_1 := HK.get 0 1 rfl rfl
  have A_s := HK.lt 0 rfl
  go_wp2
  go_ret
  exact ⟨rfl, by repeat (first | exact HK.base | apply b_alloc)⟩
end
theorem own_lt {n : Nat} {w : World} {base B : Nat} {xs : List Value} (h : w.ownsRow base 5 1 (.slice (some ⟨B, 0, none⟩) n n) n xs) (_hn : vB (n : Int) = true) : B < w.heap.size := by
  obtain ⟨_, (⟨hc, _⟩ | ⟨g, cap, cur, hv, _, hw, _⟩)⟩ := h
  · cases hc
  · cases hv
    exact (Array.getElem?_eq_some_iff.1 hw).1
theorem bytesAt_str (w : World) (str : ByteArray) : BytesAt (Lib.bytesWorld w 5 str) w.heap.size (bts str) :=
  ⟨by rw [Lib.bytesWorld_size]; omega, fun j c hj => by
    have hlt : j < str.size := by
      rcases Nat.lt_or_ge j (bts str).length with h | h
      · rwa [bts_len] at h
      · rw [List.getElem?_eq_none h] at hj; cases hj
    rw [byte_cell (Below.refl _ _) hlt]
    have e : (bts str)[j]? = some (((str.data.toList.getD j 0).toNat : Nat) : Int) := by
      unfold bts
      have : j < str.data.toList.length := by simpa using hlt
      rw [List.getElem?_map, List.getElem?_eq_getElem this]
      simp [List.getD_eq_getElem?_getD, List.getElem?_eq_getElem this]
    rw [e] at hj
    cases hj; rfl, bts_ok str⟩
theorem from_s (n : Nat) (g : Bool) (b cap : Nat) (str : ByteArray) (w : World) (h : vB (n : Int) = true) (hl : str.size = n) (hb : BytesAt w b (bts str)) :
    Calls Tryd.prog 34 #[.agg #[.int .i64 n, .bool g], .slice (some ⟨b, 0, none⟩) str.size cap] w fun e w' => e = .returned (.tuple #[.int .i64 (wr n g (wrap64 (fbS (bts str)))), .int .i64 0]) ∧ Below w.heap.size w w' := by
  rw [hl]; exact from_c n g b cap _ w h (by rw [bts_len]; exact hl) hb
end Go.Proofs.YtfgmfkiknogdeaaDoor
