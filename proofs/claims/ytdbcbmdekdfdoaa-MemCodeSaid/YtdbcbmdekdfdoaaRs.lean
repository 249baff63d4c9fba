/- WHAT IS PROVED: the reference's String of layer 3, for every space, address and limit. CONDITIONS: the slices' cells hold the lists; bytes are bytes. -/
import Derived.Test.YtdbcbmdekdfdoaaRh
import Derived.Test.YtdbcbmdekdfdoaaMu
namespace Go.Proofs.Ytdbcbmdekdfdoaa
open Go Go.RowKit Go.QrBits Go.QrMem


theorem kN_one (P B : List Int) (x q : Int) : kN P B x q 1 = if good P B q x then 1 else 0 := by
  have : kN P B x q 1 = if kN P B x q 0 < 0 then kN P B x q 0 else if good P B q (x + (0 : Nat)) then 1 else 0 := rfl
  rw [this, if_neg (by omega)]
  simp
theorem fault1_y (q : Int) (hq : q = 0 ∨ q = 1 ∨ q = 2 ∨ q = 4) (a : Option Addr) (c : Nat) (a2 : Option Addr) (c2 : Nat) (P B : List Int) (t : Int) (w : World) (hs : SpIn w a c a2 c2 P B) (hc : chk P B.length = true) (ht : I64 t) (hg : good P B q t = true) :
    Calls Try.prog 58 #[.agg #[.slice a P.length c, .slice a2 B.length c2], .int .i64 t, .int .i64 1, .int .i64 q] w fun e w' => e = .returned (.agg #[.int .i64 0, .int .i64 0]) ∧ Below w.heap.size w w' := by
  have h := fault_c q hq a c a2 c2 P B t 1 w hs hc ht (by omega)
  obtain ⟨h1, h2⟩ := fK_end (P := P) (B := B) (t := t) (q := q) (n := 1) (by rw [kN_one, if_pos hg])
  rwa [h1, h2] at h
theorem fault1_n (q : Int) (hq : q = 0 ∨ q = 1 ∨ q = 2 ∨ q = 4) (a : Option Addr) (c : Nat) (a2 : Option Addr) (c2 : Nat) (P B : List Int) (t : Int) (w : World) (hs : SpIn w a c a2 c2 P B) (hc : chk P B.length = true) (ht : I64 t) (hg : good P B q t = false) :
    Calls Try.prog 58 #[.agg #[.slice a P.length c, .slice a2 B.length c2], .int .i64 t, .int .i64 1, .int .i64 q] w fun e w' => e = .returned (.agg #[.int .i64 (kd B q t), .int .i64 t]) ∧ Below w.heap.size w w' := by
  have h := fault_c q hq a c a2 c2 P B t 1 w hs hc ht (by omega)
  obtain ⟨h1, h2⟩ := fK_at (P := P) (B := B) (t := t) (q := q) (n := 1) (k := 0) (by rw [kN_one, hg]; rfl) (by omega)
  rw [h1, h2] at h
  simpa using h
theorem kd_ne {B : List Int} {q x : Int} : (kd B q x != 0) = true := by
  rw [bne_iff_ne]; unfold kd; split
  · exact kO_ne _
  · omega
/-- What a string's reading comes to. -/
def StrIs (P B : List Int) (t : Int) (n : Nat) (S : ByteArray) (k x : Int) : Prop :=
  (∃ j : Nat, zi (rd B t (kN P B t 1 n)) = j ∧ j < (rd B t (kN P B t 1 n)).length ∧ S = strB ((rd B t (kN P B t 1 n)).take j) ∧ k = 0 ∧ x = 0) ∨
  (zi (rd B t (kN P B t 1 n)) = -1 ∧ kN P B t 1 n < n ∧ S = ⟨#[]⟩ ∧ k = fK P B t 1 n ∧ x = fX P B t 1 n) ∨
  (zi (rd B t (kN P B t 1 n)) = -1 ∧ kN P B t 1 n = n ∧ S = strB (rd B t (kN P B t 1 n)) ∧ k = 0 ∧ x = 0)
theorem strIs_zero {P B : List Int} {t : Int} {n j : Nat} (hk : j < kN P B t 1 n) (hnz : ∀ x ∈ rd B t j, x ≠ 0) (h0 : B[(t + (j : Int)).toNat]?.getD 0 = 0) : StrIs P B t n (strB (rd B t j)) 0 0 := by
  have e := rd_take (B := B) (t := t) (k := j) (n := kN P B t 1 n) (by omega)
  refine .inl ⟨j, zi_first ?_ (by rw [e]; exact hnz), by rw [rd_len]; exact hk, by rw [e], rfl, rfl⟩
  have e2 := rd_take (B := B) (t := t) (k := j + 1) (n := kN P B t 1 n) (by omega)
  have e3 : (rd B t (kN P B t 1 n))[j]? = (rd B t (j + 1))[j]? := by rw [← e2, List.getElem?_take_of_lt (by omega)]
  rw [e3, rd_succ, h0, List.getElem?_append_right (by rw [rd_len]; omega), rd_len]
  simp
theorem strIs_fault {P B : List Int} {t : Int} {n j : Nat} (hk : kN P B t 1 n = j) (hj : j < n) (hnz : ∀ x ∈ rd B t j, x ≠ 0) : StrIs P B t n ⟨#[]⟩ (kd B 1 (t + j)) (t + j) := by
  obtain ⟨h1, h2⟩ := fK_at hk hj
  exact .inr (.inl ⟨by rw [hk]; exact zi_none hnz, by omega, rfl, h1.symm, h2.symm⟩)
theorem strIs_all {P B : List Int} {t : Int} {n : Nat} (hk : kN P B t 1 n = n) (hnz : ∀ x ∈ rd B t n, x ≠ 0) : StrIs P B t n (strB (rd B t n)) 0 0 :=
  .inr (.inr ⟨by rw [hk]; exact zi_none hnz, hk, by rw [hk], rfl, rfl⟩)
def StrPost (P B : List Int) (t : Int) (n : Nat) (w : World) (e : Ending) (w' : World) : Prop :=
  (∃ S k x, e = .returned (.agg #[.string S, .int .i64 k, .int .i64 x, .int .i64 0]) ∧ StrIs P B t n S k x) ∧ Below w.heap.size w w'
theorem strB_snoc (xs : List Int) (y : Int) : strB xs ++ strB [y] = strB (xs ++ [y]) := by
  refine ba_ext ?_
  simp [strB]
theorem str_one {w : World} {b off cap : Nat} {y : Int} (h : w.cell? ⟨b, off, none⟩ = some (.int .u8 y)) (hb : b < w.heap.size) (hc : 1 ≤ cap) (hm : cap ≤ maxLen) (hy : 0 ≤ y ∧ y ≤ 255) :
    (convert 23 9 (.slice (some ⟨b, off, none⟩) 1 cap)).run Try.prog w = .ok (.string (strB [y])) w :=
  str_c (b := [y]) (a := some ⟨b, off, none⟩) (c := cap) ⟨hc, hm, fun e => by cases e⟩ (.inr ⟨b, off, rfl, hb, fun j x hx => by
    cases j with
    | zero => simp [bV] at hx; subst hx; exact h
    | succ j => simp [bV] at hx⟩) (fun n hn => by simp at hn; subst hn; exact hy)
set_option maxHeartbeats 4000000 in
set_option maxRecDepth 100000 in
theorem rstr_n (a : Option Addr) (c : Nat) (a2 : Option Addr) (c2 : Nat) (P B : List Int) (t n : Int) (w : World) (hs : SpIn w a c a2 c2 P B) (hc : chk P B.length = false) :
    Calls Try.prog 32 #[.agg #[.slice a P.length c, .slice a2 B.length c2], .int .i64 t, .int .i64 n] w fun e w' => e = .returned (.agg #[.string ⟨#[]⟩, .int .i64 0, .int .i64 0, .int .i64 30]) ∧ Below w.heap.size w w' := by
  have hS0 := Lib.hid hs
  clear hs
  have HC := Lib.hid hc
  clear hc
  go_enter Try.func32, Try.ntmps32
  have HK := Kw.start w
  go_wp2_with fail
  replace HK := HK.box (vs := [.slice a P.length c, .slice a2 B.length c2]) (t := 25)
  replace HK := HK.box (vs := [.string ⟨#[]⟩, .int .i64 0, .int .i64 0, .int .i64 0]) (t := 60)
  simp only [World.size_alloc] at HK
  refine (rspace_n _ _ _ _ _ _ _ (hS0.out.below HK.base) HC.out).mono ?_
  rintro e w1 ⟨rfl, hq⟩
  replace HK := HK.below hq
  clear hq
  have r_0 := HK.get 0 0 rfl rfl
  have r_f0 := HK.fz 0 0 rfl
  have r_1 := HK.get 0 1 rfl rfl
  have r_f1 := HK.fz 0 1 rfl
  have r_2 := HK.get 0 2 rfl rfl
  have r_f2 := HK.fz 0 2 rfl
  have r_3 := HK.get 0 3 rfl rfl
  have r_f3 := HK.fz 0 3 rfl
  have r_s := HK.lt 0 rfl
  have p_0 := HK.get 1 0 rfl rfl
  have p_1 := HK.get 1 1 rfl rfl
  have p_s := HK.lt 1 rfl
  have hK := HK.base
  obtain ⟨g1, g2, g3, g4⟩ := put4c (.string ⟨#[]⟩) (.int .i64 0) (.int .i64 0) (.int .i64 30) r_0 r_1 r_2 r_3
  clear HK
  go_wp2
  refine bodyPost_ret (v := .agg #[.string ⟨#[]⟩, .int .i64 0, .int .i64 0, .int .i64 30]) (by simp [results, Try.results32, go_sem, g1, g2, g3, g4]) rfl ?_
  exact ⟨rfl, (((hK.setCell (by show _ ≤ w.heap.size + 1; omega) _).setCell (by show _ ≤ w.heap.size + 1; omega) _).setCell (by show _ ≤ w.heap.size + 1; omega) _).setCell (by show _ ≤ w.heap.size + 1; omega) _⟩
set_option maxHeartbeats 4000000 in
set_option maxRecDepth 100000 in
theorem rstr_lo (a : Option Addr) (c : Nat) (a2 : Option Addr) (c2 : Nat) (P B : List Int) (t n : Int) (w : World) (hs : SpIn w a c a2 c2 P B) (hc : chk P B.length = true) (hn : n < 0) :
    Calls Try.prog 32 #[.agg #[.slice a P.length c, .slice a2 B.length c2], .int .i64 t, .int .i64 n] w fun e w' => e = .returned (.agg #[.string ⟨#[]⟩, .int .i64 0, .int .i64 0, .int .i64 1]) ∧ Below w.heap.size w w' := by
  have hS0 := Lib.hid hs
  clear hs
  have HC := Lib.hid hc
  clear hc
  go_enter Try.func32, Try.ntmps32
  have HK := Kw.start w
  go_wp2_with fail
  replace HK := HK.box (vs := [.slice a P.length c, .slice a2 B.length c2]) (t := 25)
  replace HK := HK.box (vs := [.string ⟨#[]⟩, .int .i64 0, .int .i64 0, .int .i64 0]) (t := 60)
  simp only [World.size_alloc] at HK
  refine (rspace_y _ _ _ _ _ _ _ (hS0.out.below HK.base) HC.out).mono ?_
  rintro e w1 ⟨rfl, hq⟩
  replace HK := HK.below hq
  clear hq
  have r_0 := HK.get 0 0 rfl rfl
  have r_f0 := HK.fz 0 0 rfl
  have r_1 := HK.get 0 1 rfl rfl
  have r_f1 := HK.fz 0 1 rfl
  have r_2 := HK.get 0 2 rfl rfl
  have r_f2 := HK.fz 0 2 rfl
  have r_3 := HK.get 0 3 rfl rfl
  have r_f3 := HK.fz 0 3 rfl
  have r_s := HK.lt 0 rfl
  have p_0 := HK.get 1 0 rfl rfl
  have p_1 := HK.get 1 1 rfl rfl
  have p_s := HK.lt 1 rfl
  have hK := HK.base
  obtain ⟨g1, g2, g3, g4⟩ := put4c (.string ⟨#[]⟩) (.int .i64 0) (.int .i64 0) (.int .i64 1) r_0 r_1 r_2 r_3
  clear HK
  go_wp2
  refine bodyPost_ret (v := .agg #[.string ⟨#[]⟩, .int .i64 0, .int .i64 0, .int .i64 1]) (by simp [results, Try.results32, go_sem, g1, g2, g3, g4]) rfl ?_
  exact ⟨rfl, (((hK.setCell (by show _ ≤ w.heap.size + 1; omega) _).setCell (by show _ ≤ w.heap.size + 1; omega) _).setCell (by show _ ≤ w.heap.size + 1; omega) _).setCell (by show _ ≤ w.heap.size + 1; omega) _⟩
set_option maxHeartbeats 4000000 in
set_option maxRecDepth 100000 in
theorem rstr_hi (a : Option Addr) (c : Nat) (a2 : Option Addr) (c2 : Nat) (P B : List Int) (t n : Int) (w : World) (hs : SpIn w a c a2 c2 P B) (hc : chk P B.length = true) (hn : 64 < n) :
    Calls Try.prog 32 #[.agg #[.slice a P.length c, .slice a2 B.length c2], .int .i64 t, .int .i64 n] w fun e w' => e = .returned (.agg #[.string ⟨#[]⟩, .int .i64 0, .int .i64 0, .int .i64 1]) ∧ Below w.heap.size w w' := by
  have hS0 := Lib.hid hs
  clear hs
  have HC := Lib.hid hc
  clear hc
  have hn2 : ¬ n < 0 := by omega
  go_enter Try.func32, Try.ntmps32
  have HK := Kw.start w
  go_wp2_with fail
  replace HK := HK.box (vs := [.slice a P.length c, .slice a2 B.length c2]) (t := 25)
  replace HK := HK.box (vs := [.string ⟨#[]⟩, .int .i64 0, .int .i64 0, .int .i64 0]) (t := 60)
  simp only [World.size_alloc] at HK
  refine (rspace_y _ _ _ _ _ _ _ (hS0.out.below HK.base) HC.out).mono ?_
  rintro e w1 ⟨rfl, hq⟩
  replace HK := HK.below hq
  clear hq
  have r_0 := HK.get 0 0 rfl rfl
  have r_f0 := HK.fz 0 0 rfl
  have r_1 := HK.get 0 1 rfl rfl
  have r_f1 := HK.fz 0 1 rfl
  have r_2 := HK.get 0 2 rfl rfl
  have r_f2 := HK.fz 0 2 rfl
  have r_3 := HK.get 0 3 rfl rfl
  have r_f3 := HK.fz 0 3 rfl
  have r_s := HK.lt 0 rfl
  have p_0 := HK.get 1 0 rfl rfl
  have p_1 := HK.get 1 1 rfl rfl
  have p_s := HK.lt 1 rfl
  have hK := HK.base
  obtain ⟨g1, g2, g3, g4⟩ := put4c (.string ⟨#[]⟩) (.int .i64 0) (.int .i64 0) (.int .i64 1) r_0 r_1 r_2 r_3
  clear HK
  go_wp2
  refine bodyPost_ret (v := .agg #[.string ⟨#[]⟩, .int .i64 0, .int .i64 0, .int .i64 1]) (by simp [results, Try.results32, go_sem, g1, g2, g3, g4]) rfl ?_
  exact ⟨rfl, (((hK.setCell (by show _ ≤ w.heap.size + 1; omega) _).setCell (by show _ ≤ w.heap.size + 1; omega) _).setCell (by show _ ≤ w.heap.size + 1; omega) _).setCell (by show _ ≤ w.heap.size + 1; omega) _⟩
set_option linter.unusedSimpArgs false in
set_option maxHeartbeats 4000000 in
set_option maxRecDepth 100000 in
theorem rstr_c (a : Option Addr) (c : Nat) (a2 : Option Addr) (c2 : Nat) (P B : List Int) (t : Int) (n : Nat) (w : World) (hs : SpIn w a c a2 c2 P B) (hc : chk P B.length = true) (hn : n ≤ 64) (ht : I64 t) (hok : okB B) :
    Calls Try.prog 32 #[.agg #[.slice a P.length c, .slice a2 B.length c2], .int .i64 t, .int .i64 (n : Int)] w (StrPost P B t n w) := by
  have hS0 := Lib.hid hs
  clear hs
  have HC := Lib.hid hc
  have hn0 : ¬ ((n : Int) < 0) := by omega
  have hn1 : ¬ (64 < (n : Int)) := by omega
  have HT := Lib.hid ht
  clear ht
  have HOK := Lib.hid hok
  clear hok
  have HL := Lib.hid (chk_len4 hc)
  clear hc
  go_enter Try.func32, Try.ntmps32
  have HK := Kw.start w
  go_wp2_with fail
  replace HK := HK.box (vs := [.slice a P.length c, .slice a2 B.length c2]) (t := 25)
  replace HK := HK.box (vs := [.string ⟨#[]⟩, .int .i64 0, .int .i64 0, .int .i64 0]) (t := 60)
  simp only [World.size_alloc] at HK
  refine (rspace_y _ _ _ _ _ _ _ (hS0.out.below HK.base) HC.out).mono ?_
  rintro e w1 ⟨rfl, hq⟩
  replace HK := HK.below hq
  clear hq
  have HK2 := HK
  have p_0 := HK2.get 1 0 rfl rfl
  have p_1 := HK2.get 1 1 rfl rfl
  clear HK2
  go_wp2_with fail
  go_loopw [7, 8] (fun v i wr => ∃ (k : Nat) (w5 : World), w5 = wr ∧ k ≤ n ∧ i = .int .i64 k ∧ v = .string (strB (rd B t k)) ∧ Hid (k ≤ kN P B t 1 n) ∧ Hid (∀ x ∈ rd B t k, x ≠ 0) ∧ Kw [(w.heap.size + 1, [.string ⟨#[]⟩, .int .i64 0, .int .i64 0, .int .i64 0], 60), (w.heap.size, [.slice a P.length c, .slice a2 B.length c2], 25)] w w5) (fun _ i _ => n - (intOf i).toNat)
  case atStart => exact ⟨0, _, rfl, Nat.zero_le _, rfl, rfl, Nat.zero_le _, fun x hx => by simp [rd] at hx, HK⟩
  case round =>
    clear HK
    obtain ⟨k, w5, hw, hk, rfl, rfl, HG, HNZ, HK⟩ := hrel
    subst hw
    clear p_0 p_1
    obtain ⟨hb0, hb1⟩ := kN_in (by have := HL.out; omega) HT.out HG.out
    have h64 : I64 (t + k) := ⟨hb0, hb1⟩
    have H64 := Lib.hid h64
    clear h64
    by_cases hlt : k < n
    · by_cases hg : good P B 1 (t + k) = true
      · have HGo := Lib.hid hg
        obtain ⟨x0, x1⟩ := good_range hg
        have HG2 := Lib.hid (good_lt HG.out hlt hg)
        have hbl : (B.length : Int) ≤ 2048 := by have := HL.out; omega
        clear hg
        have p_0 := HK.get 1 0 rfl rfl
        have p_1 := HK.get 1 1 rfl rfl
        have r_0 := HK.get 0 0 rfl rfl
        have r_1 := HK.get 0 1 rfl rfl
        have r_2 := HK.get 0 2 rfl rfl
        have r_3 := HK.get 0 3 rfl rfl
        have r_f0 := HK.fz 0 0 rfl
        have r_f1 := HK.fz 0 1 rfl
        have r_f2 := HK.fz 0 2 rfl
        have r_f3 := HK.fz 0 3 rfl
        have r_s := HK.lt 0 rfl
        have p_s := HK.lt 1 rfl
        have HX := Lib.hid (And.intro x0 x1)
        clear x0 x1
        generalize hX : strB (rd B t k) = X at *
        have HXX := Lib.hid hX
        clear hX
        go_wp2_with fail
        clear p_0 p_1 r_0 r_1 r_2 r_3 r_f0 r_f1 r_f2 r_f3 r_s p_s
        refine (fault1_y 1 (by omega) _ _ _ _ _ _ _ _ (hS0.out.below HK.base) HC.out H64.out HGo.out).mono ?_
        rintro e w6 ⟨rfl, hq⟩
        replace HK := HK.below hq
        clear hq
        obtain ⟨m, hm0⟩ : ∃ m : Nat, t + (k : Int) = m := ⟨(t + k).toNat, by have := HX.out.1; omega⟩
        have hmB : m < B.length := by have := HX.out.2; omega
        obtain ⟨b, off, rfl, _, _⟩ := hS0.out.shape2 hmB
        have hS6 := hS0.out.below HK.base
        have hbyte := hS6.byte hmB
        have hblt : b < w6.heap.size := by
          rcases hS6.s2 with h | ⟨b', off', ha, hb, _⟩
          · have : B = [] := by simpa [bV] using h
            subst this; simp at hmB
          · cases ha; exact hb
        have hcap := hS6.v2.1
        have hcap2 := hS6.v2.2.1
        have hYr := HOK.out (B[m]?.getD 0) (by simp [hmB])
        have hcv := str_one (w := w6.alloc (.cells #[.int .i64 0, .int .i64 0] 34)) (b := b) (off := off + m) (cap := c2 - m) (y := B[m]?.getD 0) (by rw [World.cell?_alloc_lt _ _ _ hblt]; exact hbyte) (by simp; omega) (by omega) (by omega) hYr
        have HRD : Hid (rd B t (k + 1) = rd B t k ++ [B[m]?.getD 0] ∧ B[(t + (k : Int)).toNat]?.getD 0 = B[m]?.getD 0) := ⟨by rw [rd_succ, hm0, Int.toNat_natCast], by rw [hm0, Int.toNat_natCast]⟩
        unfold maxLen at hcap2
        clear hS6 hYr
        generalize hY : B[m]?.getD 0 = y at *
        have HYY := Lib.hid hY
        clear hY
        have hxs : ¬ 9223372036854775807 < X.size + (strB [y]).size := by
          rw [← HXX.out, strB_size, strB_size, rd_len]; simp; omega
        generalize hYS : strB [y] = Y at *
        have HYS := Lib.hid hYS
        clear hYS
        have m0 : (0 : Int) ≤ (m : Int) := Int.natCast_nonneg _
        have m1 : (m : Int) < (B.length : Int) := by omega
        have p_0 := HK.get 1 0 rfl rfl
        have p_1 := HK.get 1 1 rfl rfl
        have r_0 := HK.get 0 0 rfl rfl
        have r_1 := HK.get 0 1 rfl rfl
        have r_2 := HK.get 0 2 rfl rfl
        have r_3 := HK.get 0 3 rfl rfl
        have r_f0 := HK.fz 0 0 rfl
        have r_f1 := HK.fz 0 1 rfl
        have r_f2 := HK.fz 0 2 rfl
        have r_f3 := HK.fz 0 3 rfl
        have r_s := HK.lt 0 rfl
        have p_s := HK.lt 1 rfl
        have HM := Lib.hid hm0
        have hcm : (c2 = m) = False := by simp; omega
        by_cases hy0 : y = 0
        · have hyb : (y == 0) = true := by simp [hy0]
          have HY0 := Lib.hid hy0
          clear hy0
          have hK := HK.base
          obtain ⟨g1, g2, g3, g4⟩ := put4c (.string X) (.int .i64 0) (.int .i64 0) (.int .i64 0) r_0 r_1 r_2 r_3
          clear HK
          go_wp2
          refine bodyPost_ret (v := .agg #[.string X, .int .i64 0, .int .i64 0, .int .i64 0]) (by simp [results, Try.results32, go_sem, g1, g2, g3, g4, r_s]) rfl ?_
          exact ⟨⟨_, _, _, rfl, by rw [← HXX.out]; exact strIs_zero HG2.out HNZ.out (by rw [HRD.out.2]; exact HY0.out)⟩, b_alloc ((((hK.setCell (by show _ ≤ w.heap.size + 1; omega) _).setCell (by show _ ≤ w.heap.size + 1; omega) _).setCell (by show _ ≤ w.heap.size + 1; omega) _).setCell (by show _ ≤ w.heap.size + 1; omega) _)⟩
        · have hyb : (y == 0) = false := by simp [hy0]
          have HY0 := Lib.hid hy0
          clear hy0
          have HKh := Lib.hid HK
          clear HK
          go_wp2
          go_roundw
          case rel =>
            refine ⟨k + 1, _, rfl, by omega, by go_num, ?_, HG2.out, ?_, HKh.out.alloc⟩
            · rw [HRD.out.1, ← strB_snoc, HXX.out, HYS.out]
            · intro x hx
              rw [HRD.out.1, List.mem_append, List.mem_singleton] at hx
              rcases hx with hx | rfl
              · exact HNZ.out x hx
              · exact HY0.out
          case measure => simp [intOf]; omega
      · have hg : good P B 1 (t + k) = false := by simpa using hg
        have HGo := Lib.hid hg
        have HZ := Lib.hid (kN_at HG.out hg)
        clear hg
        have p_0 := HK.get 1 0 rfl rfl
        have p_1 := HK.get 1 1 rfl rfl
        have r_0 := HK.get 0 0 rfl rfl
        have r_1 := HK.get 0 1 rfl rfl
        have r_2 := HK.get 0 2 rfl rfl
        have r_3 := HK.get 0 3 rfl rfl
        have r_f0 := HK.fz 0 0 rfl
        have r_f1 := HK.fz 0 1 rfl
        have r_f2 := HK.fz 0 2 rfl
        have r_f3 := HK.fz 0 3 rfl
        have r_s := HK.lt 0 rfl
        have p_s := HK.lt 1 rfl
        go_wp2_with fail
        clear p_0 p_1 r_0 r_1 r_2 r_3 r_f0 r_f1 r_f2 r_f3 r_s p_s
        refine (fault1_n 1 (by omega) _ _ _ _ _ _ _ _ (hS0.out.below HK.base) HC.out H64.out HGo.out).mono ?_
        rintro e w6 ⟨rfl, hq⟩
        replace HK := HK.below hq
        clear hq
        have HE := Lib.hid (strIs_fault HZ.out hlt HNZ.out)
        have hkd := kd_ne (B := B) (q := 1) (x := t + k)
        generalize kd B 1 (t + k) = kk at *
        have p_0 := HK.get 1 0 rfl rfl
        have p_1 := HK.get 1 1 rfl rfl
        have r_0 := HK.get 0 0 rfl rfl
        have r_1 := HK.get 0 1 rfl rfl
        have r_2 := HK.get 0 2 rfl rfl
        have r_3 := HK.get 0 3 rfl rfl
        have r_f0 := HK.fz 0 0 rfl
        have r_f1 := HK.fz 0 1 rfl
        have r_f2 := HK.fz 0 2 rfl
        have r_f3 := HK.fz 0 3 rfl
        have r_s := HK.lt 0 rfl
        have p_s := HK.lt 1 rfl
        have hK := HK.base
        obtain ⟨g1, g2, g3, g4⟩ := put4c (.string ⟨#[]⟩) (.int .i64 kk) (.int .i64 (t + k)) (.int .i64 0) r_0 r_1 r_2 r_3
        clear HK
        go_wp2
        refine bodyPost_ret (v := .agg #[.string ⟨#[]⟩, .int .i64 kk, .int .i64 (t + k), .int .i64 0]) (by simp [results, Try.results32, go_sem, g1, g2, g3, g4, r_s]) rfl ?_
        exact ⟨⟨_, _, _, rfl, HE.out⟩, b_alloc ((((hK.setCell (by show _ ≤ w.heap.size + 1; omega) _).setCell (by show _ ≤ w.heap.size + 1; omega) _).setCell (by show _ ≤ w.heap.size + 1; omega) _).setCell (by show _ ≤ w.heap.size + 1; omega) _)⟩
    · have hkn : n = k := by omega
      have HE := Lib.hid (strIs_all (P := P) (B := B) (t := t) (n := k) (by have := HG.out; have := kN_le P B t 1 n; subst hkn; omega) HNZ.out)
      have HN := Lib.hid hkn
      clear hkn
      have p_0 := HK.get 1 0 rfl rfl
      have p_1 := HK.get 1 1 rfl rfl
      have r_0 := HK.get 0 0 rfl rfl
      have r_1 := HK.get 0 1 rfl rfl
      have r_2 := HK.get 0 2 rfl rfl
      have r_3 := HK.get 0 3 rfl rfl
      have r_f0 := HK.fz 0 0 rfl
      have r_f1 := HK.fz 0 1 rfl
      have r_f2 := HK.fz 0 2 rfl
      have r_f3 := HK.fz 0 3 rfl
      have r_s := HK.lt 0 rfl
      have p_s := HK.lt 1 rfl
      generalize hX : strB (rd B t k) = X at *
      have HXX := Lib.hid hX
      clear hX
      have hK := HK.base
      obtain ⟨g1, g2, g3, g4⟩ := put4c (.string X) (.int .i64 0) (.int .i64 0) (.int .i64 0) r_0 r_1 r_2 r_3
      clear HK
      go_wp2
      refine bodyPost_ret (v := .agg #[.string X, .int .i64 0, .int .i64 0, .int .i64 0]) (by simp [results, Try.results32, go_sem, g1, g2, g3, g4, r_s]) rfl ?_
      exact ⟨⟨_, _, _, rfl, by rw [HN.out]; exact HE.out⟩, (((hK.setCell (by show _ ≤ w.heap.size + 1; omega) _).setCell (by show _ ≤ w.heap.size + 1; omega) _).setCell (by show _ ≤ w.heap.size + 1; omega) _).setCell (by show _ ≤ w.heap.size + 1; omega) _⟩
end Go.Proofs.Ytdbcbmdekdfdoaa
