/- WHAT IS PROVED: mem.checkSize, mem.checkType, mem.Access, mem.Fetch, mem.Peek, for every space, address, number and permission. CONDITIONS: the slices' cells hold the lists. -/
import Derived.Test.YtdbcbmdekdfdoaaRe
namespace Go.Proofs.Ytdbcbmdekdfdoaa
open Go Go.RowKit Go.QrBits Go.QrMem

set_option maxHeartbeats 4000000 in
set_option maxRecDepth 100000 in
theorem size_n (a : Option Addr) (c : Nat) (a2 : Option Addr) (c2 : Nat) (perm bytes : List Int) (n : Int) (w : World) (hs : SpIn w a c a2 c2 perm bytes) (hc : chk perm bytes.length = false) :
    Calls Try.prog 55 #[.agg #[.slice a perm.length c, .slice a2 bytes.length c2], .int .i64 n] w fun e w' => e = .returned (.int .i64 30) ∧ Below w.heap.size w w' := by
  have HC := Lib.hid hc
  have HS := Lib.hid hs
  clear hc hs
  go_enter Try.func55, Try.ntmps55
  have HK := Kw.start w
  go_wp2_with fail
  replace HK := HK.box (vs := [.slice a perm.length c, .slice a2 bytes.length c2]) (t := 25)
  refine (check_n _ _ _ _ _ _ _ (HS.out.below HK.base) HC.out).mono ?_
  rintro e w1 ⟨rfl, hq⟩
  replace HK := HK.below hq
  have p_0 := HK.get 0 0 rfl rfl
  have p_1 := HK.get 0 1 rfl rfl
  have p_s := HK.lt 0 rfl
  have hK := HK.base
  clear HK
  go_wp2
  go_ret
  exact ⟨rfl, hK⟩
set_option maxHeartbeats 4000000 in
set_option maxRecDepth 100000 in
theorem size_y (a : Option Addr) (c : Nat) (a2 : Option Addr) (c2 : Nat) (perm bytes : List Int) (n : Nat) (w : World) (hs : SpIn w a c a2 c2 perm bytes) (hc : chk perm bytes.length = true) (hn : n ≤ 2048) :
    Calls Try.prog 55 #[.agg #[.slice a perm.length c, .slice a2 bytes.length c2], .int .i64 (n : Int)] w fun e w' => e = .returned (.int .i64 0) ∧ Below w.heap.size w w' := by
  have HC := Lib.hid hc
  have HS := Lib.hid hs
  clear hc hs
  go_enter Try.func55, Try.ntmps55
  have HK := Kw.start w
  go_wp2_with fail
  replace HK := HK.box (vs := [.slice a perm.length c, .slice a2 bytes.length c2]) (t := 25)
  refine (check_y _ _ _ _ _ _ _ (HS.out.below HK.base) HC.out).mono ?_
  rintro e w1 ⟨rfl, hq⟩
  replace HK := HK.below hq
  have p_0 := HK.get 0 0 rfl rfl
  have p_1 := HK.get 0 1 rfl rfl
  have p_s := HK.lt 0 rfl
  have hK := HK.base
  clear HK
  go_wp2
  go_ret
  exact ⟨rfl, hK⟩
set_option maxHeartbeats 4000000 in
set_option maxRecDepth 100000 in
theorem size_lo (a : Option Addr) (c : Nat) (a2 : Option Addr) (c2 : Nat) (perm bytes : List Int) (n : Int) (w : World) (hs : SpIn w a c a2 c2 perm bytes) (hc : chk perm bytes.length = true) (hn : n < 0) :
    Calls Try.prog 55 #[.agg #[.slice a perm.length c, .slice a2 bytes.length c2], .int .i64 n] w fun e w' => e = .returned (.int .i64 1) ∧ Below w.heap.size w w' := by
  have HC := Lib.hid hc
  have HS := Lib.hid hs
  clear hc hs
  go_enter Try.func55, Try.ntmps55
  have HK := Kw.start w
  go_wp2_with fail
  replace HK := HK.box (vs := [.slice a perm.length c, .slice a2 bytes.length c2]) (t := 25)
  refine (check_y _ _ _ _ _ _ _ (HS.out.below HK.base) HC.out).mono ?_
  rintro e w1 ⟨rfl, hq⟩
  replace HK := HK.below hq
  have p_0 := HK.get 0 0 rfl rfl
  have p_1 := HK.get 0 1 rfl rfl
  have p_s := HK.lt 0 rfl
  have hK := HK.base
  clear HK
  go_wp2
  go_ret
  exact ⟨rfl, hK⟩
set_option maxHeartbeats 4000000 in
set_option maxRecDepth 100000 in
theorem size_hi (a : Option Addr) (c : Nat) (a2 : Option Addr) (c2 : Nat) (perm bytes : List Int) (n : Int) (w : World) (hs : SpIn w a c a2 c2 perm bytes) (hc : chk perm bytes.length = true) (hn : 2048 < n) :
    Calls Try.prog 55 #[.agg #[.slice a perm.length c, .slice a2 bytes.length c2], .int .i64 n] w fun e w' => e = .returned (.int .i64 1) ∧ Below w.heap.size w w' := by
  have HC := Lib.hid hc
  have HS := Lib.hid hs
  clear hc hs
  go_enter Try.func55, Try.ntmps55
  have HK := Kw.start w
  go_wp2_with fail
  replace HK := HK.box (vs := [.slice a perm.length c, .slice a2 bytes.length c2]) (t := 25)
  refine (check_y _ _ _ _ _ _ _ (HS.out.below HK.base) HC.out).mono ?_
  rintro e w1 ⟨rfl, hq⟩
  replace HK := HK.below hq
  have hn0 : decide (n < 0) = false := by simp; omega
  have p_0 := HK.get 0 0 rfl rfl
  have p_1 := HK.get 0 1 rfl rfl
  have p_s := HK.lt 0 rfl
  have hK := HK.base
  clear HK
  go_wp2
  go_ret
  exact ⟨rfl, hK⟩
theorem size_p (a : Option Addr) (c : Nat) (a2 : Option Addr) (c2 : Nat) (perm bytes : List Int) (n : Int) (w : World) (hs : SpIn w a c a2 c2 perm bytes) (hc : chk perm bytes.length = true) (hn : n < 0 ∨ 2048 < n) : Calls Try.prog 55 #[.agg #[.slice a perm.length c, .slice a2 bytes.length c2], .int .i64 n] w fun e w' => e = .returned (.int .i64 1) ∧ Below w.heap.size w w' := by
  rcases hn with h | h
  · exact size_lo a c a2 c2 perm bytes n w hs hc h
  · exact size_hi a c a2 c2 perm bytes n w hs hc h
set_option maxHeartbeats 4000000 in
set_option maxRecDepth 100000 in
theorem bcheck_y (s : Int) (g : Bool) (w : World) (h : vB s = true) : Calls Try.prog 74 #[.agg #[.int .i64 s, .bool g]] w fun e w' => e = .returned (.int .i64 0) ∧ Below w.heap.size w w' := by
  have hv := valid_c s g (w.alloc (.cells #[.int .i64 s, .bool g] 64))
  rw [h] at hv
  go_enter Try.func74, Try.ntmps74
  go_wp2_with fail
  refine hv.mono ?_
  rintro e w1 ⟨rfl, hq⟩
  go_wp2
  go_ret
  exact ⟨rfl, Below.tail (b_alloc (Below.refl _ _)) hq⟩
set_option maxHeartbeats 4000000 in
set_option maxRecDepth 100000 in
theorem bcheck_n (s : Int) (g : Bool) (w : World) (h : vB s = false) : Calls Try.prog 74 #[.agg #[.int .i64 s, .bool g]] w fun e w' => e = .returned (.int .i64 10) ∧ Below w.heap.size w w' := by
  have hv := valid_c s g (w.alloc (.cells #[.int .i64 s, .bool g] 64))
  rw [h] at hv
  go_enter Try.func74, Try.ntmps74
  go_wp2_with fail
  refine hv.mono ?_
  rintro e w1 ⟨rfl, hq⟩
  go_wp2
  go_ret
  exact ⟨rfl, Below.tail (b_alloc (Below.refl _ _)) hq⟩
set_option maxHeartbeats 4000000 in
set_option maxRecDepth 100000 in
theorem type_n (a : Option Addr) (c : Nat) (a2 : Option Addr) (c2 : Nat) (perm bytes : List Int) (s : Int) (g : Bool) (w : World) (hs : SpIn w a c a2 c2 perm bytes) (hc : chk perm bytes.length = false) :
    Calls Try.prog 61 #[.agg #[.slice a perm.length c, .slice a2 bytes.length c2], .agg #[.int .i64 s, .bool g]] w fun e w' => e = .returned (.int .i64 30) ∧ Below w.heap.size w w' := by
  have HC := Lib.hid hc
  have HS := Lib.hid hs
  clear hc hs
  go_enter Try.func61, Try.ntmps61
  have HK := Kw.start w
  go_wp2_with fail
  replace HK := HK.box (vs := [.slice a perm.length c, .slice a2 bytes.length c2]) (t := 25)
  replace HK := HK.box (vs := [.int .i64 s, .bool g]) (t := 64)
  simp only [World.size_alloc] at HK
  refine (check_n _ _ _ _ _ _ _ (HS.out.below HK.base) HC.out).mono ?_
  rintro e w1 ⟨rfl, hq⟩
  replace HK := HK.below hq
  have ty_0 := HK.get 0 0 rfl rfl
  have ty_1 := HK.get 0 1 rfl rfl
  have ty_s := HK.lt 0 rfl
  have p_0 := HK.get 1 0 rfl rfl
  have p_1 := HK.get 1 1 rfl rfl
  have p_s := HK.lt 1 rfl
  have hK := HK.base
  clear HK
  go_wp2
  go_ret
  exact ⟨rfl, hK⟩
set_option maxHeartbeats 4000000 in
set_option maxRecDepth 100000 in
theorem type_y (a : Option Addr) (c : Nat) (a2 : Option Addr) (c2 : Nat) (perm bytes : List Int) (s : Int) (g : Bool) (w : World) (hs : SpIn w a c a2 c2 perm bytes) (hc : chk perm bytes.length = true) (hv : vB s = true) :
    Calls Try.prog 61 #[.agg #[.slice a perm.length c, .slice a2 bytes.length c2], .agg #[.int .i64 s, .bool g]] w fun e w' => e = .returned (.int .i64 0) ∧ Below w.heap.size w w' := by
  have HC := Lib.hid hc
  have HS := Lib.hid hs
  clear hc hs
  go_enter Try.func61, Try.ntmps61
  have HK := Kw.start w
  go_wp2_with fail
  replace HK := HK.box (vs := [.slice a perm.length c, .slice a2 bytes.length c2]) (t := 25)
  replace HK := HK.box (vs := [.int .i64 s, .bool g]) (t := 64)
  simp only [World.size_alloc] at HK
  refine (check_y _ _ _ _ _ _ _ (HS.out.below HK.base) HC.out).mono ?_
  rintro e w1 ⟨rfl, hq⟩
  replace HK := HK.below hq
  have ty_0 := HK.get 0 0 rfl rfl
  have ty_1 := HK.get 0 1 rfl rfl
  have ty_s := HK.lt 0 rfl
  have p_0 := HK.get 1 0 rfl rfl
  have p_1 := HK.get 1 1 rfl rfl
  have p_s := HK.lt 1 rfl
  go_wp2_with fail
  clear ty_0 ty_1 ty_s p_0 p_1 p_s
  refine (bcheck_y _ _ _ hv).mono ?_
  rintro e w2 ⟨rfl, hq⟩
  replace HK := HK.below hq
  have ty_0 := HK.get 0 0 rfl rfl
  have ty_1 := HK.get 0 1 rfl rfl
  have ty_s := HK.lt 0 rfl
  have p_0 := HK.get 1 0 rfl rfl
  have p_1 := HK.get 1 1 rfl rfl
  have p_s := HK.lt 1 rfl
  have hK := HK.base
  clear HK
  go_wp2
  go_ret
  exact ⟨rfl, hK⟩
set_option maxHeartbeats 4000000 in
set_option maxRecDepth 100000 in
theorem type_p (a : Option Addr) (c : Nat) (a2 : Option Addr) (c2 : Nat) (perm bytes : List Int) (s : Int) (g : Bool) (w : World) (hs : SpIn w a c a2 c2 perm bytes) (hc : chk perm bytes.length = true) (hv : vB s = false) :
    Calls Try.prog 61 #[.agg #[.slice a perm.length c, .slice a2 bytes.length c2], .agg #[.int .i64 s, .bool g]] w fun e w' => e = .returned (.int .i64 10) ∧ Below w.heap.size w w' := by
  have HC := Lib.hid hc
  have HS := Lib.hid hs
  clear hc hs
  go_enter Try.func61, Try.ntmps61
  have HK := Kw.start w
  go_wp2_with fail
  replace HK := HK.box (vs := [.slice a perm.length c, .slice a2 bytes.length c2]) (t := 25)
  replace HK := HK.box (vs := [.int .i64 s, .bool g]) (t := 64)
  simp only [World.size_alloc] at HK
  refine (check_y _ _ _ _ _ _ _ (HS.out.below HK.base) HC.out).mono ?_
  rintro e w1 ⟨rfl, hq⟩
  replace HK := HK.below hq
  have ty_0 := HK.get 0 0 rfl rfl
  have ty_1 := HK.get 0 1 rfl rfl
  have ty_s := HK.lt 0 rfl
  have p_0 := HK.get 1 0 rfl rfl
  have p_1 := HK.get 1 1 rfl rfl
  have p_s := HK.lt 1 rfl
  go_wp2_with fail
  clear ty_0 ty_1 ty_s p_0 p_1 p_s
  refine (bcheck_n _ _ _ hv).mono ?_
  rintro e w2 ⟨rfl, hq⟩
  replace HK := HK.below hq
  have ty_0 := HK.get 0 0 rfl rfl
  have ty_1 := HK.get 0 1 rfl rfl
  have ty_s := HK.lt 0 rfl
  have p_0 := HK.get 1 0 rfl rfl
  have p_1 := HK.get 1 1 rfl rfl
  have p_s := HK.lt 1 rfl
  have hK := HK.base
  clear HK
  go_wp2
  go_ret
  exact ⟨rfl, hK⟩
set_option maxHeartbeats 4000000 in
set_option maxRecDepth 100000 in
theorem access_n (a : Option Addr) (c : Nat) (a2 : Option Addr) (c2 : Nat) (perm bytes : List Int) (t n q : Int) (w : World) (hs : SpIn w a c a2 c2 perm bytes) (hc : chk perm bytes.length = false) :
    Calls Try.prog 25 #[.agg #[.slice a perm.length c, .slice a2 bytes.length c2], .int .i64 t, .int .i64 n, .int .i64 q] w fun e w' => e = .returned (.tuple #[.agg #[.int .i64 0, .int .i64 0], .int .i64 30]) ∧ Below w.heap.size w w' := by
  have HC := Lib.hid hc
  have HS := Lib.hid hs
  clear hc hs
  go_enter Try.func25, Try.ntmps25
  have HK := Kw.start w
  go_wp2_with fail
  replace HK := HK.box (vs := [.slice a perm.length c, .slice a2 bytes.length c2]) (t := 25)
  replace HK := HK.box (vs := [.int .i64 0, .int .i64 0]) (t := 34)
  simp only [World.size_alloc] at HK
  refine (size_n _ _ _ _ _ _ n _ (HS.out.below HK.base) HC.out).mono ?_
  rintro e w1 ⟨rfl, hq⟩
  replace HK := HK.below hq
  have r_0 := HK.get 0 0 rfl rfl
  have r_f0 := HK.fz 0 0 rfl
  have r_1 := HK.get 0 1 rfl rfl
  have r_f1 := HK.fz 0 1 rfl
  have r_s := HK.lt 0 rfl
  have p_0 := HK.get 1 0 rfl rfl
  have p_1 := HK.get 1 1 rfl rfl
  have p_s := HK.lt 1 rfl
  have hK := HK.base
  obtain ⟨g1, g2⟩ := put2 (.int .i64 0) (.int .i64 0) r_0 r_1
  clear HK
  go_wp2
  refine bodyPost_ret (v := .tuple #[.agg #[.int .i64 0, .int .i64 0], .int .i64 30]) (by simp [results, Try.results25, go_sem, g1, g2]) rfl ?_
  exact ⟨rfl, (hK.setCell (by simp) _).setCell (by simp) _⟩
set_option maxHeartbeats 4000000 in
set_option maxRecDepth 100000 in
theorem access_p (a : Option Addr) (c : Nat) (a2 : Option Addr) (c2 : Nat) (perm bytes : List Int) (t n q : Int) (w : World) (hs : SpIn w a c a2 c2 perm bytes) (hc : chk perm bytes.length = true) (hn : n < 0 ∨ 2048 < n) :
    Calls Try.prog 25 #[.agg #[.slice a perm.length c, .slice a2 bytes.length c2], .int .i64 t, .int .i64 n, .int .i64 q] w fun e w' => e = .returned (.tuple #[.agg #[.int .i64 0, .int .i64 0], .int .i64 1]) ∧ Below w.heap.size w w' := by
  have HC := Lib.hid hc
  have HS := Lib.hid hs
  clear hc hs
  go_enter Try.func25, Try.ntmps25
  have HK := Kw.start w
  go_wp2_with fail
  replace HK := HK.box (vs := [.slice a perm.length c, .slice a2 bytes.length c2]) (t := 25)
  replace HK := HK.box (vs := [.int .i64 0, .int .i64 0]) (t := 34)
  simp only [World.size_alloc] at HK
  refine (size_p _ _ _ _ _ _ n _ (HS.out.below HK.base) HC.out hn).mono ?_
  rintro e w1 ⟨rfl, hq⟩
  replace HK := HK.below hq
  have r_0 := HK.get 0 0 rfl rfl
  have r_f0 := HK.fz 0 0 rfl
  have r_1 := HK.get 0 1 rfl rfl
  have r_f1 := HK.fz 0 1 rfl
  have r_s := HK.lt 0 rfl
  have p_0 := HK.get 1 0 rfl rfl
  have p_1 := HK.get 1 1 rfl rfl
  have p_s := HK.lt 1 rfl
  have hK := HK.base
  obtain ⟨g1, g2⟩ := put2 (.int .i64 0) (.int .i64 0) r_0 r_1
  clear HK
  go_wp2
  refine bodyPost_ret (v := .tuple #[.agg #[.int .i64 0, .int .i64 0], .int .i64 1]) (by simp [results, Try.results25, go_sem, g1, g2]) rfl ?_
  exact ⟨rfl, (hK.setCell (by simp) _).setCell (by simp) _⟩
set_option maxHeartbeats 4000000 in
set_option maxRecDepth 100000 in
theorem access_q (a : Option Addr) (c : Nat) (a2 : Option Addr) (c2 : Nat) (perm bytes : List Int) (t : Int) (n : Nat) (q : Int) (w : World) (hs : SpIn w a c a2 c2 perm bytes) (hc : chk perm bytes.length = true) (hn : n ≤ 2048) (q1 : (q != 1) = true) (q2 : (q != 2) = true) (q4 : (q != 4) = true) :
    Calls Try.prog 25 #[.agg #[.slice a perm.length c, .slice a2 bytes.length c2], .int .i64 t, .int .i64 (n : Int), .int .i64 q] w fun e w' => e = .returned (.tuple #[.agg #[.int .i64 0, .int .i64 0], .int .i64 1]) ∧ Below w.heap.size w w' := by
  have HC := Lib.hid hc
  have HS := Lib.hid hs
  clear hc hs
  go_enter Try.func25, Try.ntmps25
  have HK := Kw.start w
  go_wp2_with fail
  replace HK := HK.box (vs := [.slice a perm.length c, .slice a2 bytes.length c2]) (t := 25)
  replace HK := HK.box (vs := [.int .i64 0, .int .i64 0]) (t := 34)
  simp only [World.size_alloc] at HK
  refine (size_y _ _ _ _ _ _ n _ (HS.out.below HK.base) HC.out hn).mono ?_
  rintro e w1 ⟨rfl, hq⟩
  replace HK := HK.below hq
  have r_0 := HK.get 0 0 rfl rfl
  have r_f0 := HK.fz 0 0 rfl
  have r_1 := HK.get 0 1 rfl rfl
  have r_f1 := HK.fz 0 1 rfl
  have r_s := HK.lt 0 rfl
  have p_0 := HK.get 1 0 rfl rfl
  have p_1 := HK.get 1 1 rfl rfl
  have p_s := HK.lt 1 rfl
  have hK := HK.base
  obtain ⟨g1, g2⟩ := put2 (.int .i64 0) (.int .i64 0) r_0 r_1
  clear HK
  go_wp2
  refine bodyPost_ret (v := .tuple #[.agg #[.int .i64 0, .int .i64 0], .int .i64 1]) (by simp [results, Try.results25, go_sem, g1, g2]) rfl ?_
  exact ⟨rfl, (hK.setCell (by simp) _).setCell (by simp) _⟩
set_option maxHeartbeats 4000000 in
set_option maxRecDepth 100000 in
theorem access_r (a : Option Addr) (c : Nat) (a2 : Option Addr) (c2 : Nat) (perm bytes : List Int) (t : Int) (n : Nat) (w : World) (hs : SpIn w a c a2 c2 perm bytes) (hc : chk perm bytes.length = true) (hn : n ≤ 2048) (ht : I64 t) :
    Calls Try.prog 25 #[.agg #[.slice a perm.length c, .slice a2 bytes.length c2], .int .i64 t, .int .i64 (n : Int), .int .i64 1] w fun e w' => e = .returned (.tuple #[.agg #[(.int .i64 (fK perm bytes t 1 n)), (.int .i64 (fX perm bytes t 1 n))], .int .i64 0]) ∧ Below w.heap.size w w' := by
  have HC := Lib.hid hc
  have HS := Lib.hid hs
  clear hc hs
  have HT := Lib.hid ht
  clear ht
  go_enter Try.func25, Try.ntmps25
  have HK := Kw.start w
  go_wp2_with fail
  replace HK := HK.box (vs := [.slice a perm.length c, .slice a2 bytes.length c2]) (t := 25)
  replace HK := HK.box (vs := [.int .i64 0, .int .i64 0]) (t := 34)
  simp only [World.size_alloc] at HK
  refine (size_y _ _ _ _ _ _ n _ (HS.out.below HK.base) HC.out hn).mono ?_
  rintro e w1 ⟨rfl, hq⟩
  replace HK := HK.below hq
  have r_0 := HK.get 0 0 rfl rfl
  have r_f0 := HK.fz 0 0 rfl
  have r_1 := HK.get 0 1 rfl rfl
  have r_f1 := HK.fz 0 1 rfl
  have r_s := HK.lt 0 rfl
  have p_0 := HK.get 1 0 rfl rfl
  have p_1 := HK.get 1 1 rfl rfl
  have p_s := HK.lt 1 rfl
  go_wp2_with fail
  clear r_0 r_f0 r_1 r_f1 r_s p_0 p_1 p_s
  have hz1 := HK.size
  have r_b := HK.lt 0 rfl
  refine (read_c n t 1 _ _ _ _ _ _ _ HC.out (by omega) HT.out (HS.out.below HK.base)).mono ?_
  rintro e w2 ⟨av, cv, rfl, ho, hq⟩
  replace HK := HK.below hq
  have r_0 := HK.get 0 0 rfl rfl
  have r_f0 := HK.fz 0 0 rfl
  have r_1 := HK.get 0 1 rfl rfl
  have r_f1 := HK.fz 0 1 rfl
  have r_s := HK.lt 0 rfl
  have hK := HK.base
  obtain ⟨g1, g2⟩ := put2 (.int .i64 (fK perm bytes t 1 n)) (.int .i64 (fX perm bytes t 1 n)) r_0 r_1
  clear HK ho
  go_wp2
  refine bodyPost_ret (v := .tuple #[.agg #[(.int .i64 (fK perm bytes t 1 n)), (.int .i64 (fX perm bytes t 1 n))], .int .i64 0]) (by simp [results, Try.results25, go_sem, g1, g2, r_s]) rfl ?_
  exact ⟨rfl, ((hK.setCell (by simp) _).setCell (by simp) _).alloc (by have := hK.size; simp; omega) _⟩
set_option maxHeartbeats 4000000 in
set_option maxRecDepth 100000 in
theorem access_w (a : Option Addr) (c : Nat) (a2 : Option Addr) (c2 : Nat) (perm bytes : List Int) (t : Int) (n : Nat) (w : World) (hs : SpIn w a c a2 c2 perm bytes) (hc : chk perm bytes.length = true) (hn : n ≤ 2048) (ht : I64 t) :
    Calls Try.prog 25 #[.agg #[.slice a perm.length c, .slice a2 bytes.length c2], .int .i64 t, .int .i64 (n : Int), .int .i64 2] w fun e w' => e = .returned (.tuple #[.agg #[(.int .i64 (fK perm bytes t 2 n)), (.int .i64 (fX perm bytes t 2 n))], .int .i64 0]) ∧ Below w.heap.size w w' := by
  have HC := Lib.hid hc
  have HS := Lib.hid hs
  clear hc hs
  have HT := Lib.hid ht
  clear ht
  go_enter Try.func25, Try.ntmps25
  have HK := Kw.start w
  go_wp2_with fail
  replace HK := HK.box (vs := [.slice a perm.length c, .slice a2 bytes.length c2]) (t := 25)
  replace HK := HK.box (vs := [.int .i64 0, .int .i64 0]) (t := 34)
  simp only [World.size_alloc] at HK
  refine (size_y _ _ _ _ _ _ n _ (HS.out.below HK.base) HC.out hn).mono ?_
  rintro e w1 ⟨rfl, hq⟩
  replace HK := HK.below hq
  have r_0 := HK.get 0 0 rfl rfl
  have r_f0 := HK.fz 0 0 rfl
  have r_1 := HK.get 0 1 rfl rfl
  have r_f1 := HK.fz 0 1 rfl
  have r_s := HK.lt 0 rfl
  have p_0 := HK.get 1 0 rfl rfl
  have p_1 := HK.get 1 1 rfl rfl
  have p_s := HK.lt 1 rfl
  go_wp2_with fail
  clear r_0 r_f0 r_1 r_f1 r_s p_0 p_1 p_s
  have hz1 := HK.size
  have r_b := HK.lt 0 rfl
  refine (read_c n t 2 _ _ _ _ _ _ _ HC.out (by omega) HT.out (HS.out.below HK.base)).mono ?_
  rintro e w2 ⟨av, cv, rfl, ho, hq⟩
  replace HK := HK.below hq
  have r_0 := HK.get 0 0 rfl rfl
  have r_f0 := HK.fz 0 0 rfl
  have r_1 := HK.get 0 1 rfl rfl
  have r_f1 := HK.fz 0 1 rfl
  have r_s := HK.lt 0 rfl
  have hK := HK.base
  obtain ⟨g1, g2⟩ := put2 (.int .i64 (fK perm bytes t 2 n)) (.int .i64 (fX perm bytes t 2 n)) r_0 r_1
  clear HK ho
  go_wp2
  refine bodyPost_ret (v := .tuple #[.agg #[(.int .i64 (fK perm bytes t 2 n)), (.int .i64 (fX perm bytes t 2 n))], .int .i64 0]) (by simp [results, Try.results25, go_sem, g1, g2, r_s]) rfl ?_
  exact ⟨rfl, ((hK.setCell (by simp) _).setCell (by simp) _).alloc (by have := hK.size; simp; omega) _⟩
set_option maxHeartbeats 4000000 in
set_option maxRecDepth 100000 in
theorem access_x (a : Option Addr) (c : Nat) (a2 : Option Addr) (c2 : Nat) (perm bytes : List Int) (t : Int) (n : Nat) (w : World) (hs : SpIn w a c a2 c2 perm bytes) (hc : chk perm bytes.length = true) (hn : n ≤ 2048) (ht : I64 t) :
    Calls Try.prog 25 #[.agg #[.slice a perm.length c, .slice a2 bytes.length c2], .int .i64 t, .int .i64 (n : Int), .int .i64 4] w fun e w' => e = .returned (.tuple #[.agg #[(.int .i64 (fK perm bytes t 4 n)), (.int .i64 (fX perm bytes t 4 n))], .int .i64 0]) ∧ Below w.heap.size w w' := by
  have HC := Lib.hid hc
  have HS := Lib.hid hs
  clear hc hs
  have HT := Lib.hid ht
  clear ht
  go_enter Try.func25, Try.ntmps25
  have HK := Kw.start w
  go_wp2_with fail
  replace HK := HK.box (vs := [.slice a perm.length c, .slice a2 bytes.length c2]) (t := 25)
  replace HK := HK.box (vs := [.int .i64 0, .int .i64 0]) (t := 34)
  simp only [World.size_alloc] at HK
  refine (size_y _ _ _ _ _ _ n _ (HS.out.below HK.base) HC.out hn).mono ?_
  rintro e w1 ⟨rfl, hq⟩
  replace HK := HK.below hq
  have r_0 := HK.get 0 0 rfl rfl
  have r_f0 := HK.fz 0 0 rfl
  have r_1 := HK.get 0 1 rfl rfl
  have r_f1 := HK.fz 0 1 rfl
  have r_s := HK.lt 0 rfl
  have p_0 := HK.get 1 0 rfl rfl
  have p_1 := HK.get 1 1 rfl rfl
  have p_s := HK.lt 1 rfl
  go_wp2_with fail
  clear r_0 r_f0 r_1 r_f1 r_s p_0 p_1 p_s
  have hz1 := HK.size
  have r_b := HK.lt 0 rfl
  refine (read_c n t 4 _ _ _ _ _ _ _ HC.out (by omega) HT.out (HS.out.below HK.base)).mono ?_
  rintro e w2 ⟨av, cv, rfl, ho, hq⟩
  replace HK := HK.below hq
  have r_0 := HK.get 0 0 rfl rfl
  have r_f0 := HK.fz 0 0 rfl
  have r_1 := HK.get 0 1 rfl rfl
  have r_f1 := HK.fz 0 1 rfl
  have r_s := HK.lt 0 rfl
  have hK := HK.base
  obtain ⟨g1, g2⟩ := put2 (.int .i64 (fK perm bytes t 4 n)) (.int .i64 (fX perm bytes t 4 n)) r_0 r_1
  clear HK ho
  go_wp2
  refine bodyPost_ret (v := .tuple #[.agg #[(.int .i64 (fK perm bytes t 4 n)), (.int .i64 (fX perm bytes t 4 n))], .int .i64 0]) (by simp [results, Try.results25, go_sem, g1, g2, r_s]) rfl ?_
  exact ⟨rfl, ((hK.setCell (by simp) _).setCell (by simp) _).alloc (by have := hK.size; simp; omega) _⟩
set_option maxHeartbeats 4000000 in
set_option maxRecDepth 100000 in
theorem fetch_n (a : Option Addr) (c : Nat) (a2 : Option Addr) (c2 : Nat) (perm bytes : List Int) (t n : Int) (w : World) (hs : SpIn w a c a2 c2 perm bytes) (hc : chk perm bytes.length = false) :
    Calls Try.prog 26 #[.agg #[.slice a perm.length c, .slice a2 bytes.length c2], .int .i64 t, .int .i64 n] w fun e w' => e = .returned (.tuple #[.slice none 0 0, .int .i64 30]) ∧ Below w.heap.size w w' := by
  have HC := Lib.hid hc
  have HS := Lib.hid hs
  clear hc hs
  go_enter Try.func26, Try.ntmps26
  have HK := Kw.start w
  go_wp2_with fail
  replace HK := HK.box (vs := [.slice a perm.length c, .slice a2 bytes.length c2]) (t := 25)
  refine (size_n _ _ _ _ _ _ n _ (HS.out.below HK.base) HC.out).mono ?_
  rintro e w1 ⟨rfl, hq⟩
  replace HK := HK.below hq
  have p_0 := HK.get 0 0 rfl rfl
  have p_1 := HK.get 0 1 rfl rfl
  have p_s := HK.lt 0 rfl
  have hK := HK.base
  clear HK
  go_wp2
  go_ret2
  exact ⟨rfl, hK⟩
set_option maxHeartbeats 4000000 in
set_option maxRecDepth 100000 in
theorem fetch_p (a : Option Addr) (c : Nat) (a2 : Option Addr) (c2 : Nat) (perm bytes : List Int) (t n : Int) (w : World) (hs : SpIn w a c a2 c2 perm bytes) (hc : chk perm bytes.length = true) (hn : n < 0 ∨ 2048 < n) :
    Calls Try.prog 26 #[.agg #[.slice a perm.length c, .slice a2 bytes.length c2], .int .i64 t, .int .i64 n] w fun e w' => e = .returned (.tuple #[.slice none 0 0, .int .i64 1]) ∧ Below w.heap.size w w' := by
  have HC := Lib.hid hc
  have HS := Lib.hid hs
  clear hc hs
  go_enter Try.func26, Try.ntmps26
  have HK := Kw.start w
  go_wp2_with fail
  replace HK := HK.box (vs := [.slice a perm.length c, .slice a2 bytes.length c2]) (t := 25)
  refine (size_p _ _ _ _ _ _ n _ (HS.out.below HK.base) HC.out hn).mono ?_
  rintro e w1 ⟨rfl, hq⟩
  replace HK := HK.below hq
  have p_0 := HK.get 0 0 rfl rfl
  have p_1 := HK.get 0 1 rfl rfl
  have p_s := HK.lt 0 rfl
  have hK := HK.base
  clear HK
  go_wp2
  go_ret2
  exact ⟨rfl, hK⟩
theorem kO_ne (p : Int) : kO p ≠ 0 := by unfold kO; repeat' split
                                         all_goals omega
theorem fK_ne {perm bytes : List Int} {t need : Int} {n : Nat} (h : kN perm bytes t need n < n) : (fK perm bytes t need n != 0) = true := by
  rw [bne_iff_ne]; unfold fK; rw [if_pos h]; unfold kd; split
  · exact kO_ne _
  · omega
theorem fK_eq {perm bytes : List Int} {t need : Int} {n : Nat} (h : kN perm bytes t need n = n) : (fK perm bytes t need n != 0) = false := by
  unfold fK; rw [if_neg (by omega)]; rfl
/-- Bytes of one's own are handed back, no fault. -/
def BytesPost (xs : List Int) (w : World) (e : Ending) (w' : World) : Prop :=
  ∃ (a : Option Addr) (c : Nat), e = .returned (.tuple #[.slice a xs.length c, .int .i64 0]) ∧ w'.ownsRow w.heap.size 5 1 (.slice a xs.length c) xs.length (bV xs) ∧ Below w.heap.size w w'
def BytesPost3 (xs : List Int) (w : World) (e : Ending) (w' : World) : Prop :=
  ∃ (a : Option Addr) (c : Nat), e = .returned (.tuple #[.slice a xs.length c, .agg #[.int .i64 0, .int .i64 0], .int .i64 0]) ∧ w'.ownsRow w.heap.size 5 1 (.slice a xs.length c) xs.length (bV xs) ∧ Below w.heap.size w w'
set_option maxHeartbeats 4000000 in
set_option maxRecDepth 100000 in
theorem fetch_y (a : Option Addr) (c : Nat) (a2 : Option Addr) (c2 : Nat) (perm bytes : List Int) (t : Int) (n : Nat) (w : World) (hs : SpIn w a c a2 c2 perm bytes) (hc : chk perm bytes.length = true) (hn : n ≤ 2048) (ht : I64 t) :
    Calls Try.prog 26 #[.agg #[.slice a perm.length c, .slice a2 bytes.length c2], .int .i64 t, .int .i64 (n : Int)] w (BytesPost (rd bytes t (kN perm bytes t 4 n)) w) := by
  have HC := Lib.hid hc
  have HS := Lib.hid hs
  clear hc hs
  have HT := Lib.hid ht
  clear ht
  go_enter Try.func26, Try.ntmps26
  have HK := Kw.start w
  go_wp2_with fail
  replace HK := HK.box (vs := [.slice a perm.length c, .slice a2 bytes.length c2]) (t := 25)
  refine (size_y _ _ _ _ _ _ n _ (HS.out.below HK.base) HC.out hn).mono ?_
  rintro e w1 ⟨rfl, hq⟩
  replace HK := HK.below hq
  have p_0 := HK.get 0 0 rfl rfl
  have p_1 := HK.get 0 1 rfl rfl
  have p_s := HK.lt 0 rfl
  go_wp2_with fail
  clear p_0 p_1 p_s
  have hz1 := HK.size
  have r_b := HK.lt 0 rfl
  refine (read_c n t 4 _ _ _ _ _ _ _ HC.out (by omega) HT.out (HS.out.below HK.base)).mono ?_
  rintro e w2 ⟨av, cv, rfl, ho, hq⟩
  replace HK := HK.below hq
  have hK := HK.base
  have hsz := hK.size
  clear HK
  go_wp2
  go_ret2
  exact ⟨av, cv, rfl, ownsRow_base (ho.alloc _) (by omega), b_alloc hK⟩
set_option maxHeartbeats 4000000 in
set_option maxRecDepth 100000 in
theorem peek_n (a : Option Addr) (c : Nat) (a2 : Option Addr) (c2 : Nat) (perm bytes : List Int) (t n : Int) (w : World) (hs : SpIn w a c a2 c2 perm bytes) (hc : chk perm bytes.length = false) :
    Calls Try.prog 27 #[.agg #[.slice a perm.length c, .slice a2 bytes.length c2], .int .i64 t, .int .i64 n] w fun e w' => e = .returned (.tuple #[.slice none 0 0, .agg #[.int .i64 0, .int .i64 0], .int .i64 30]) ∧ Below w.heap.size w w' := by
  have HC := Lib.hid hc
  have HS := Lib.hid hs
  clear hc hs
  go_enter Try.func27, Try.ntmps27
  have HK := Kw.start w
  go_wp2_with fail
  replace HK := HK.box (vs := [.slice a perm.length c, .slice a2 bytes.length c2]) (t := 25)
  replace HK := HK.box (vs := [.int .i64 0, .int .i64 0]) (t := 34)
  simp only [World.size_alloc] at HK
  refine (size_n _ _ _ _ _ _ n _ (HS.out.below HK.base) HC.out).mono ?_
  rintro e w1 ⟨rfl, hq⟩
  replace HK := HK.below hq
  have r_0 := HK.get 0 0 rfl rfl
  have r_f0 := HK.fz 0 0 rfl
  have r_1 := HK.get 0 1 rfl rfl
  have r_f1 := HK.fz 0 1 rfl
  have r_s := HK.lt 0 rfl
  have p_0 := HK.get 1 0 rfl rfl
  have p_1 := HK.get 1 1 rfl rfl
  have p_s := HK.lt 1 rfl
  have hK := HK.base
  obtain ⟨g1, g2⟩ := put2 (.int .i64 0) (.int .i64 0) r_0 r_1
  clear HK
  go_wp2
  refine bodyPost_ret (v := .tuple #[.slice none 0 0, .agg #[.int .i64 0, .int .i64 0], .int .i64 30]) (by simp [results, Try.results27, go_sem, g1, g2]) rfl ?_
  exact ⟨rfl, (hK.setCell (by simp) _).setCell (by simp) _⟩
set_option maxHeartbeats 4000000 in
set_option maxRecDepth 100000 in
theorem peek_p (a : Option Addr) (c : Nat) (a2 : Option Addr) (c2 : Nat) (perm bytes : List Int) (t n : Int) (w : World) (hs : SpIn w a c a2 c2 perm bytes) (hc : chk perm bytes.length = true) (hn : n < 0 ∨ 2048 < n) :
    Calls Try.prog 27 #[.agg #[.slice a perm.length c, .slice a2 bytes.length c2], .int .i64 t, .int .i64 n] w fun e w' => e = .returned (.tuple #[.slice none 0 0, .agg #[.int .i64 0, .int .i64 0], .int .i64 1]) ∧ Below w.heap.size w w' := by
  have HC := Lib.hid hc
  have HS := Lib.hid hs
  clear hc hs
  go_enter Try.func27, Try.ntmps27
  have HK := Kw.start w
  go_wp2_with fail
  replace HK := HK.box (vs := [.slice a perm.length c, .slice a2 bytes.length c2]) (t := 25)
  replace HK := HK.box (vs := [.int .i64 0, .int .i64 0]) (t := 34)
  simp only [World.size_alloc] at HK
  refine (size_p _ _ _ _ _ _ n _ (HS.out.below HK.base) HC.out hn).mono ?_
  rintro e w1 ⟨rfl, hq⟩
  replace HK := HK.below hq
  have r_0 := HK.get 0 0 rfl rfl
  have r_f0 := HK.fz 0 0 rfl
  have r_1 := HK.get 0 1 rfl rfl
  have r_f1 := HK.fz 0 1 rfl
  have r_s := HK.lt 0 rfl
  have p_0 := HK.get 1 0 rfl rfl
  have p_1 := HK.get 1 1 rfl rfl
  have p_s := HK.lt 1 rfl
  have hK := HK.base
  obtain ⟨g1, g2⟩ := put2 (.int .i64 0) (.int .i64 0) r_0 r_1
  clear HK
  go_wp2
  refine bodyPost_ret (v := .tuple #[.slice none 0 0, .agg #[.int .i64 0, .int .i64 0], .int .i64 1]) (by simp [results, Try.results27, go_sem, g1, g2]) rfl ?_
  exact ⟨rfl, (hK.setCell (by simp) _).setCell (by simp) _⟩
set_option maxHeartbeats 4000000 in
set_option maxRecDepth 100000 in
theorem peek_f (a : Option Addr) (c : Nat) (a2 : Option Addr) (c2 : Nat) (perm bytes : List Int) (t : Int) (n : Nat) (w : World) (hs : SpIn w a c a2 c2 perm bytes) (hc : chk perm bytes.length = true) (hn : n ≤ 2048) (ht : I64 t) (hk : kN perm bytes t 0 n < n) :
    Calls Try.prog 27 #[.agg #[.slice a perm.length c, .slice a2 bytes.length c2], .int .i64 t, .int .i64 (n : Int)] w fun e w' => e = .returned (.tuple #[.slice none 0 0, .agg #[(.int .i64 (fK perm bytes t 0 n)), (.int .i64 (fX perm bytes t 0 n))], .int .i64 0]) ∧ Below w.heap.size w w' := by
  have HC := Lib.hid hc
  have HS := Lib.hid hs
  clear hc hs
  have HT := Lib.hid ht
  clear ht
  go_enter Try.func27, Try.ntmps27
  have HK := Kw.start w
  go_wp2_with fail
  replace HK := HK.box (vs := [.slice a perm.length c, .slice a2 bytes.length c2]) (t := 25)
  replace HK := HK.box (vs := [.int .i64 0, .int .i64 0]) (t := 34)
  simp only [World.size_alloc] at HK
  refine (size_y _ _ _ _ _ _ n _ (HS.out.below HK.base) HC.out hn).mono ?_
  rintro e w1 ⟨rfl, hq⟩
  replace HK := HK.below hq
  have r_0 := HK.get 0 0 rfl rfl
  have r_f0 := HK.fz 0 0 rfl
  have r_1 := HK.get 0 1 rfl rfl
  have r_f1 := HK.fz 0 1 rfl
  have r_s := HK.lt 0 rfl
  have p_0 := HK.get 1 0 rfl rfl
  have p_1 := HK.get 1 1 rfl rfl
  have p_s := HK.lt 1 rfl
  go_wp2_with fail
  clear r_0 r_f0 r_1 r_f1 r_s p_0 p_1 p_s
  have hz1 := HK.size
  have r_b := HK.lt 0 rfl
  refine (read_c n t 0 _ _ _ _ _ _ _ HC.out (by omega) HT.out (HS.out.below HK.base)).mono ?_
  rintro e w2 ⟨av, cv, rfl, ho, hq⟩
  replace HK := HK.below hq
  have r_0 := HK.get 0 0 rfl rfl
  have r_f0 := HK.fz 0 0 rfl
  have r_1 := HK.get 0 1 rfl rfl
  have r_f1 := HK.fz 0 1 rfl
  have r_s := HK.lt 0 rfl
  have hK := HK.base
  have hsz := hK.size
  obtain ⟨g1, g2⟩ := put2 (.int .i64 (fK perm bytes t 0 n)) (.int .i64 (fX perm bytes t 0 n)) r_0 r_1
  clear HK
  have hne := fK_ne (perm := perm) (bytes := bytes) (t := t) (need := 0) (n := n) hk
  have HH := Lib.hid hk
  clear hk ho
  go_wp2
  go_region
  go_wp2
  refine bodyPost_ret (v := .tuple #[.slice none 0 0, .agg #[(.int .i64 (fK perm bytes t 0 n)), (.int .i64 (fX perm bytes t 0 n))], .int .i64 0]) (by simp [results, Try.results27, go_sem, g1, g2, r_s]) rfl ?_
  exact ⟨rfl, (((hK.setCell (by simp) _).setCell (by simp) _).alloc (by simp; omega) _).drew⟩
set_option maxHeartbeats 4000000 in
set_option maxRecDepth 100000 in
theorem peek_y (a : Option Addr) (c : Nat) (a2 : Option Addr) (c2 : Nat) (perm bytes : List Int) (t : Int) (n : Nat) (w : World) (hs : SpIn w a c a2 c2 perm bytes) (hc : chk perm bytes.length = true) (hn : n ≤ 2048) (ht : I64 t) (hk : kN perm bytes t 0 n = n) :
    Calls Try.prog 27 #[.agg #[.slice a perm.length c, .slice a2 bytes.length c2], .int .i64 t, .int .i64 (n : Int)] w (BytesPost3 (rd bytes t (kN perm bytes t 0 n)) w) := by
  have HC := Lib.hid hc
  have HS := Lib.hid hs
  clear hc hs
  have HT := Lib.hid ht
  clear ht
  go_enter Try.func27, Try.ntmps27
  have HK := Kw.start w
  go_wp2_with fail
  replace HK := HK.box (vs := [.slice a perm.length c, .slice a2 bytes.length c2]) (t := 25)
  replace HK := HK.box (vs := [.int .i64 0, .int .i64 0]) (t := 34)
  simp only [World.size_alloc] at HK
  refine (size_y _ _ _ _ _ _ n _ (HS.out.below HK.base) HC.out hn).mono ?_
  rintro e w1 ⟨rfl, hq⟩
  replace HK := HK.below hq
  have r_0 := HK.get 0 0 rfl rfl
  have r_f0 := HK.fz 0 0 rfl
  have r_1 := HK.get 0 1 rfl rfl
  have r_f1 := HK.fz 0 1 rfl
  have r_s := HK.lt 0 rfl
  have p_0 := HK.get 1 0 rfl rfl
  have p_1 := HK.get 1 1 rfl rfl
  have p_s := HK.lt 1 rfl
  go_wp2_with fail
  clear r_0 r_f0 r_1 r_f1 r_s p_0 p_1 p_s
  have hz1 := HK.size
  have r_b := HK.lt 0 rfl
  refine (read_c n t 0 _ _ _ _ _ _ _ HC.out (by omega) HT.out (HS.out.below HK.base)).mono ?_
  rintro e w2 ⟨av, cv, rfl, ho, hq⟩
  replace HK := HK.below hq
  have r_0 := HK.get 0 0 rfl rfl
  have r_f0 := HK.fz 0 0 rfl
  have r_1 := HK.get 0 1 rfl rfl
  have r_f1 := HK.fz 0 1 rfl
  have r_s := HK.lt 0 rfl
  have hK := HK.base
  have hsz := hK.size
  obtain ⟨g1, g2⟩ := put2 (.int .i64 0) (.int .i64 0) r_0 r_1
  clear HK
  have hne := fK_eq (perm := perm) (bytes := bytes) (t := t) (need := 0) (n := n) hk
  have HH := Lib.hid hk
  clear hk
  go_wp2
  refine bodyPost_ret (v := .tuple #[.slice av (rd bytes t (kN perm bytes t 0 n)).length cv, .agg #[.int .i64 0, .int .i64 0], .int .i64 0]) (by simp [results, Try.results27, go_sem, g1, g2, r_s]) rfl ?_
  exact ⟨av, cv, rfl, ownsRow_base ((ownsRow_setCell_below (ownsRow_setCell_below ho (by show w.heap.size + 1 < w1.heap.size; omega) _) (by show w.heap.size + 1 < w1.heap.size; omega) _).alloc _) (by omega), ((hK.setCell (by simp) _).setCell (by simp) _).alloc (by simp; omega) _⟩
end Go.Proofs.Ytdbcbmdekdfdoaa
