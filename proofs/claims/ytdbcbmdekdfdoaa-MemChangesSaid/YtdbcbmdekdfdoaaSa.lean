/- WHAT IS PROVED: taplinelaw03.three makes the space of the chapter's examples; these examples hold. CONDITIONS: none. -/
import Derived.Test.YtdbcbmdekdfdoaaSo
namespace Go.Proofs.Ytdbcbmdekdfdoaa
open Go Go.RowKit Go.QrBits Go.QrMem

def Q0 : List Int := [0, 0, 0]
def Q1 : List Int := [3, 0, 0]
def Q2 : List Int := [3, 1, 0]
def P3 : List Int := [3, 1, 4]
def Z192 : List Int := List.replicate 192 0
def X192 : List Int := wrB Z192 60 (byL 4 258) 4
theorem spIn_own {w : World} {base : Nat} {a : Option Addr} {c : Nat} {a2 : Option Addr} {c2 : Nat} {perm bytes : List Int} (h1 : w.ownsRow base 3 1 (.slice a perm.length c) perm.length (iV perm)) (h2 : w.ownsRow base 5 1 (.slice a2 bytes.length c2) bytes.length (bV bytes)) : SpIn w a c a2 c2 perm bytes := by
  refine ⟨?_, ?_, SlAt.own h1, SlAt.own h2⟩
  · obtain ⟨_, (⟨h, h0⟩ | ⟨g, cap, cur, h, _, _, hn, hm, _⟩)⟩ := h1
    · simp only [Value.slice.injEq] at h
      exact ⟨by omega, by unfold maxLen; omega, fun _ => ⟨h0, h.2.2⟩⟩
    · simp only [Value.slice.injEq] at h
      exact ⟨by rw [h.2.2]; exact hn, by rw [h.2.2]; exact hm, fun e => by rw [h.1] at e; cases e⟩
  · obtain ⟨_, (⟨h, h0⟩ | ⟨g, cap, cur, h, _, _, hn, hm, _⟩)⟩ := h2
    · simp only [Value.slice.injEq] at h
      exact ⟨by omega, by unfold maxLen; omega, fun _ => ⟨h0, h.2.2⟩⟩
    · simp only [Value.slice.injEq] at h
      exact ⟨by rw [h.2.2]; exact hn, by rw [h.2.2]; exact hm, fun e => by rw [h.1] at e; cases e⟩
/-- A space of one's own is handed back, and an error. -/
def SpOut (perm bytes : List Int) (w : World) (e : Ending) (w' : World) : Prop :=
  ∃ (a : Option Addr) (c : Nat) (a2 : Option Addr) (c2 : Nat), e = .returned (.tuple #[.agg #[.slice a perm.length c, .slice a2 bytes.length c2], .int .i64 0]) ∧
    w'.ownsRow w.heap.size 3 1 (.slice a perm.length c) perm.length (iV perm) ∧ w'.ownsRow w.heap.size 5 1 (.slice a2 bytes.length c2) bytes.length (bV bytes) ∧ Below w.heap.size w w'
def SpOut3 (perm bytes : List Int) (w : World) (e : Ending) (w' : World) : Prop :=
  ∃ (a : Option Addr) (c : Nat) (a2 : Option Addr) (c2 : Nat), e = .returned (.tuple #[.agg #[.slice a perm.length c, .slice a2 bytes.length c2], .agg #[.int .i64 0, .int .i64 0], .int .i64 0]) ∧
    w'.ownsRow w.heap.size 3 1 (.slice a perm.length c) perm.length (iV perm) ∧ w'.ownsRow w.heap.size 5 1 (.slice a2 bytes.length c2) bytes.length (bV bytes) ∧ Below w.heap.size w w'
theorem spOut_of {perm bytes : List Int} {w : World} {e : Ending} {w' : World} (h : SpPost perm bytes w e w') : SpOut perm bytes w e w' := by
  obtain ⟨v, rfl, ⟨a, c, a2, c2, rfl, h1, h2⟩, hb⟩ := h; exact ⟨a, c, a2, c2, rfl, h1, h2, hb⟩
theorem spOut3_of {perm bytes : List Int} {w : World} {e : Ending} {w' : World} (h : StPost perm bytes w e w') : SpOut3 perm bytes w e w' := by
  obtain ⟨v, rfl, ⟨a, c, a2, c2, rfl, h1, h2⟩, hb⟩ := h; exact ⟨a, c, a2, c2, rfl, h1, h2, hb⟩
theorem chk_Q0 : chk Q0 Z192.length = true := by decide +kernel
theorem chk_Q1 : chk Q1 Z192.length = true := by decide +kernel
theorem chk_Q2 : chk Q2 Z192.length = true := by decide +kernel
theorem chk_P3 : chk P3 Z192.length = true := by decide +kernel
theorem len_X : X192.length = 192 := by unfold X192; rw [wrB_len]; decide +kernel
theorem chk_X : chk P3 X192.length = true := by rw [len_X]; decide +kernel
theorem ok_Z : okB Z192 := by intro x hx; have := List.eq_of_mem_replicate hx; omega
theorem ok_X : okB X192 := by unfold okB; decide +kernel
theorem I64_lit (x : Int) (h : -9223372036854775808 ≤ x ∧ x ≤ 9223372036854775807 := by omega) : I64 x := h
section
variable (a : Option Addr) (c : Nat) (a2 : Option Addr) (c2 : Nat) (w : World)
theorem s_new : Calls Try.prog 15 #[.int .i64 3] w (SpOut Q0 Z192 w) :=
  (new_y 3 w (by omega)).mono fun _ _ ⟨_, he, ⟨a, c, a2, c2, hv, h1, h2⟩, hb⟩ => ⟨a, c, a2, c2, by rw [he, hv]; rfl, h1, h2, hb⟩
theorem s_p0 (h : SpIn w a c a2 c2 Q0 Z192) : Calls Try.prog 16 #[.agg #[.slice a Q0.length c, .slice a2 Z192.length c2], .int .i64 0, .int .i64 3] w (SpOut Q1 Z192 w) :=
  (protect_y a c a2 c2 Q0 Z192 0 0 3 w h chk_Q0 (by decide) rfl rfl rfl).mono fun _ _ h => spOut_of h
theorem s_p1 (h : SpIn w a c a2 c2 Q1 Z192) : Calls Try.prog 16 #[.agg #[.slice a Q1.length c, .slice a2 Z192.length c2], .int .i64 1, .int .i64 1] w (SpOut Q2 Z192 w) :=
  (protect_y a c a2 c2 Q1 Z192 1 0 1 w h chk_Q1 (by decide) rfl rfl rfl).mono fun _ _ h => spOut_of h
theorem s_se (h : SpIn w a c a2 c2 Q2 Z192) : Calls Try.prog 17 #[.agg #[.slice a Q2.length c, .slice a2 Z192.length c2], .int .i64 2] w (SpOut P3 Z192 w) :=
  (seal_y a c a2 c2 Q2 Z192 2 w h chk_Q2 (by decide)).mono fun _ _ h => spOut_of h
variable (h : SpIn w a c a2 c2 P3 Z192)
include h
theorem s_st1 : Calls Try.prog 34 #[.agg #[.slice a P3.length c, .slice a2 Z192.length c2], .int .i64 60, .agg #[.int .i64 4, .bool false], .int .i64 258] w (SpOut3 P3 X192 w) :=
  (store_y a c a2 c2 P3 Z192 60 258 4 false w h chk_P3 rfl (I64_lit 60) (by decide +kernel)).mono fun _ _ h => spOut3_of h
theorem s_st2 : Calls Try.prog 34 #[.agg #[.slice a P3.length c, .slice a2 Z192.length c2], .int .i64 62, .agg #[.int .i64 4, .bool false], .int .i64 1] w fun e w' => e = .returned (.tuple #[.agg #[.slice none 0 0, .slice none 0 0], .agg #[.int .i64 3, .int .i64 64], .int .i64 0]) ∧ Below w.heap.size w w' := by
  have := store_f a c a2 c2 P3 Z192 62 1 4 false w h chk_P3 rfl (I64_lit 62) (by decide +kernel)
  rw [show fK P3 Z192 62 2 4 = 3 by decide +kernel, show fX P3 Z192 62 2 4 = 64 by decide +kernel] at this
  exact this
theorem s_ld2 : Calls Try.prog 33 #[.agg #[.slice a P3.length c, .slice a2 Z192.length c2], .int .i64 126, .agg #[.int .i64 4, .bool false]] w fun e w' => e = .returned (.tuple #[.int .i64 0, .agg #[.int .i64 2, .int .i64 128], .int .i64 0]) ∧ Below w.heap.size w w' := by
  have := load_f a c a2 c2 P3 Z192 126 4 false w h chk_P3 rfl (I64_lit 126) (by decide +kernel)
  rw [show fK P3 Z192 126 1 4 = 2 by decide +kernel, show fX P3 Z192 126 1 4 = 128 by decide +kernel] at this
  exact this
theorem s_fe : Calls Try.prog 26 #[.agg #[.slice a P3.length c, .slice a2 Z192.length c2], .int .i64 190, .int .i64 4] w fun e w' => ∃ (av : Option Addr) (cv : Nat), e = .returned (.tuple #[.slice av 2 cv, .int .i64 0]) ∧ Below w.heap.size w w' := by
  refine (fetch_y a c a2 c2 P3 Z192 190 4 w h chk_P3 (by omega) (I64_lit 190)).mono ?_
  rintro e w' ⟨av, cv, rfl, _, hb⟩
  refine ⟨av, cv, ?_, hb⟩
  rw [rd_len, show kN P3 Z192 190 4 4 = 2 by decide +kernel]
theorem s_pe : Calls Try.prog 27 #[.agg #[.slice a P3.length c, .slice a2 Z192.length c2], .int .i64 190, .int .i64 4] w fun e w' => e = .returned (.tuple #[.slice none 0 0, .agg #[.int .i64 1, .int .i64 192], .int .i64 0]) ∧ Below w.heap.size w w' := by
  have := peek_f a c a2 c2 P3 Z192 190 4 w h chk_P3 (by omega) (I64_lit 190) (by decide +kernel)
  rw [show fK P3 Z192 190 0 4 = 1 by decide +kernel, show fX P3 Z192 190 0 4 = 192 by decide +kernel] at this
  exact this
theorem s_p4 : Calls Try.prog 16 #[.agg #[.slice a P3.length c, .slice a2 Z192.length c2], .int .i64 2, .int .i64 1] w fun e w' => e = .returned (.tuple #[noSp, .int .i64 31]) ∧ Below w.heap.size w w' :=
  protect_4 a c a2 c2 P3 Z192 2 1 w h chk_P3 (by decide) rfl
theorem s_pd : Calls Try.prog 16 #[.agg #[.slice a P3.length c, .slice a2 Z192.length c2], .int .i64 1, .int .i64 4] w fun e w' => e = .returned (.tuple #[noSp, .int .i64 31]) ∧ Below w.heap.size w w' :=
  protect_d a c a2 c2 P3 Z192 1 1 4 w h chk_P3 (by decide) rfl rfl rfl
theorem s_ck : Calls Try.prog 21 #[.agg #[.slice a P3.length c, .slice a2 Z192.length c2]] w fun e w' => e = .returned (.int .i64 0) ∧ Below w.heap.size w w' := check_y a c a2 c2 P3 Z192 w h chk_P3
end
theorem s_ld1 (a : Option Addr) (c : Nat) (a2 : Option Addr) (c2 : Nat) (w : World) (h : SpIn w a c a2 c2 P3 X192) : Calls Try.prog 33 #[.agg #[.slice a P3.length c, .slice a2 X192.length c2], .int .i64 60, .agg #[.int .i64 4, .bool false]] w fun e w' => e = .returned (.tuple #[.int .i64 258, .agg #[.int .i64 0, .int .i64 0], .int .i64 0]) ∧ Below w.heap.size w w' := by
  have := load_y a c a2 c2 P3 X192 60 4 false w h chk_X rfl (I64_lit 60) ok_X (by decide +kernel)
  rw [show ldV 4 false X192 60 = 258 by decide +kernel] at this
  exact this
set_option maxHeartbeats 4000000 in
set_option maxRecDepth 100000 in
theorem three_c (w : World) : Calls Try.prog 46 #[] w fun e w' => ∃ (a : Option Addr) (c : Nat) (a2 : Option Addr) (c2 : Nat), e = .returned (.agg #[.slice a P3.length c, .slice a2 Z192.length c2]) ∧ SpIn w' a c a2 c2 P3 Z192 ∧ Below w.heap.size w w' := by
  go_enter Try.func46, Try.ntmps46
  have HK := Kw.start w
  go_wp2_with fail
  replace HK := HK.box (vs := [.slice none 0 0, .slice none 0 0]) (t := 25)
  refine (s_new _).mono ?_
  rintro e w1 ⟨a1, c1, b1, d1, rfl, ho1, hu1, hq⟩
  replace HK := HK.below hq
  clear hq
  have hS := spIn_own ho1 hu1
  have hl1 := HK.lt 0 rfl
  have r_0 := HK.get 0 0 rfl rfl
  have r_f0 := HK.fz 0 0 rfl
  have r_1 := HK.get 0 1 rfl rfl
  have r_f1 := HK.fz 0 1 rfl
  have r_s := HK.lt 0 rfl
  go_wp2_with fail
  replace HK := HK.box (vs := [.slice a1 Q0.length c1, .slice b1 Z192.length d1]) (t := 25)
  clear r_0 r_f0 r_1 r_f1 r_s
  refine (s_p0 _ _ _ _ _ ?hs0).mono ?_
  case hs0 => exact hS.below (b_alloc (Below.refl _ _))
  rintro e w2 ⟨a2, c2, b2, d2, rfl, ho2, hu2, hq⟩
  have hbz2 : w1.heap.size + 1 ≤ (w1.alloc (.cells #[.slice a1 Q0.length c1, .slice b1 Z192.length d1] 25)).heap.size := by simp
  replace HK := HK.below hq
  clear hq
  clear hS
  have hls := HK.lt 0 rfl
  have s_0 := HK.get 0 0 rfl rfl
  have s_f0 := HK.fz 0 0 rfl
  have s_1 := HK.get 0 1 rfl rfl
  have s_f1 := HK.fz 0 1 rfl
  have s_s := HK.lt 0 rfl
  have r_0 := HK.get 1 0 rfl rfl
  have r_f0 := HK.fz 1 0 rfl
  have r_1 := HK.get 1 1 rfl rfl
  have r_f1 := HK.fz 1 1 rfl
  have r_s := HK.lt 1 rfl
  obtain ⟨s1, s2⟩ := put2 (.slice a2 Q1.length c2) (.slice b2 Z192.length d2) s_0 s_1
  go_wp2_with fail
  clear s1 s2
  clear s_0 s_f0 s_1 s_f1 s_s r_0 r_f0 r_1 r_f1 r_s
  replace HK : Kw [(w1.heap.size, [.slice a2 Q1.length c2, .slice b2 Z192.length d2], 25), (w.heap.size, [.slice none 0 0, .slice none 0 0], 25)] w ((w2.setCell ⟨w1.heap.size, 0, none⟩ (.slice a2 Q1.length c2)).setCell ⟨w1.heap.size, 1, none⟩ (.slice b2 Z192.length d2)) := (HK.put (j := 0) (v := .slice a2 Q1.length c2) (by omega) (by intro f hf; simp at hf; subst hf; show w.heap.size ≠ w1.heap.size; omega)).put (j := 1) (v := .slice b2 Z192.length d2) (by omega) (by intro f hf; simp at hf; subst hf; show w.heap.size ≠ w1.heap.size; omega)
  have s_0 := HK.get 0 0 rfl rfl
  have s_f0 := HK.fz 0 0 rfl
  have s_1 := HK.get 0 1 rfl rfl
  have s_f1 := HK.fz 0 1 rfl
  have s_s := HK.lt 0 rfl
  have r_0 := HK.get 1 0 rfl rfl
  have r_f0 := HK.fz 1 0 rfl
  have r_1 := HK.get 1 1 rfl rfl
  have r_f1 := HK.fz 1 1 rfl
  have r_s := HK.lt 1 rfl
  go_wp2_with fail
  clear s_0 s_f0 s_1 s_f1 s_s r_0 r_f0 r_1 r_f1 r_s
  refine (s_p1 _ _ _ _ _ ?hs1).mono ?_
  case hs1 => exact spIn_own (ownsRow_setCell_below (ownsRow_setCell_below (ownsRow_base ho2 hbz2) (by show w1.heap.size < w1.heap.size + 1; omega) _) (by show w1.heap.size < w1.heap.size + 1; omega) _) (ownsRow_setCell_below (ownsRow_setCell_below (ownsRow_base hu2 hbz2) (by show w1.heap.size < w1.heap.size + 1; omega) _) (by show w1.heap.size < w1.heap.size + 1; omega) _)
  rintro e w3 ⟨a3, c3, b3, d3, rfl, ho3, hu3, hq⟩
  have hbz3 : w1.heap.size + 1 ≤ ((w2.setCell ⟨w1.heap.size, 0, none⟩ (.slice a2 Q1.length c2)).setCell ⟨w1.heap.size, 1, none⟩ (.slice b2 Z192.length d2)).heap.size := by have := hls; simp; omega
  replace HK := HK.below hq
  clear hq
  have hls := HK.lt 0 rfl
  have s_0 := HK.get 0 0 rfl rfl
  have s_f0 := HK.fz 0 0 rfl
  have s_1 := HK.get 0 1 rfl rfl
  have s_f1 := HK.fz 0 1 rfl
  have s_s := HK.lt 0 rfl
  have r_0 := HK.get 1 0 rfl rfl
  have r_f0 := HK.fz 1 0 rfl
  have r_1 := HK.get 1 1 rfl rfl
  have r_f1 := HK.fz 1 1 rfl
  have r_s := HK.lt 1 rfl
  obtain ⟨s1, s2⟩ := put2 (.slice a3 Q2.length c3) (.slice b3 Z192.length d3) s_0 s_1
  go_wp2_with fail
  clear s1 s2
  clear s_0 s_f0 s_1 s_f1 s_s r_0 r_f0 r_1 r_f1 r_s
  replace HK : Kw [(w1.heap.size, [.slice a3 Q2.length c3, .slice b3 Z192.length d3], 25), (w.heap.size, [.slice none 0 0, .slice none 0 0], 25)] w ((w3.setCell ⟨w1.heap.size, 0, none⟩ (.slice a3 Q2.length c3)).setCell ⟨w1.heap.size, 1, none⟩ (.slice b3 Z192.length d3)) := (HK.put (j := 0) (v := .slice a3 Q2.length c3) (by omega) (by intro f hf; simp at hf; subst hf; show w.heap.size ≠ w1.heap.size; omega)).put (j := 1) (v := .slice b3 Z192.length d3) (by omega) (by intro f hf; simp at hf; subst hf; show w.heap.size ≠ w1.heap.size; omega)
  have s_0 := HK.get 0 0 rfl rfl
  have s_f0 := HK.fz 0 0 rfl
  have s_1 := HK.get 0 1 rfl rfl
  have s_f1 := HK.fz 0 1 rfl
  have s_s := HK.lt 0 rfl
  have r_0 := HK.get 1 0 rfl rfl
  have r_f0 := HK.fz 1 0 rfl
  have r_1 := HK.get 1 1 rfl rfl
  have r_f1 := HK.fz 1 1 rfl
  have r_s := HK.lt 1 rfl
  go_wp2_with fail
  clear s_0 s_f0 s_1 s_f1 s_s r_0 r_f0 r_1 r_f1 r_s
  refine (s_se _ _ _ _ _ ?hs2).mono ?_
  case hs2 => exact spIn_own (ownsRow_setCell_below (ownsRow_setCell_below (ownsRow_base ho3 hbz3) (by show w1.heap.size < w1.heap.size + 1; omega) _) (by show w1.heap.size < w1.heap.size + 1; omega) _) (ownsRow_setCell_below (ownsRow_setCell_below (ownsRow_base hu3 hbz3) (by show w1.heap.size < w1.heap.size + 1; omega) _) (by show w1.heap.size < w1.heap.size + 1; omega) _)
  rintro e w4 ⟨a4, c4, b4, d4, rfl, ho4, hu4, hq⟩
  have hbz4 : w1.heap.size + 1 ≤ ((w3.setCell ⟨w1.heap.size, 0, none⟩ (.slice a3 Q2.length c3)).setCell ⟨w1.heap.size, 1, none⟩ (.slice b3 Z192.length d3)).heap.size := by have := hls; simp; omega
  replace HK := HK.below hq
  clear hq
  have hls := HK.lt 0 rfl
  have s_0 := HK.get 0 0 rfl rfl
  have s_f0 := HK.fz 0 0 rfl
  have s_1 := HK.get 0 1 rfl rfl
  have s_f1 := HK.fz 0 1 rfl
  have s_s := HK.lt 0 rfl
  have r_0 := HK.get 1 0 rfl rfl
  have r_f0 := HK.fz 1 0 rfl
  have r_1 := HK.get 1 1 rfl rfl
  have r_f1 := HK.fz 1 1 rfl
  have r_s := HK.lt 1 rfl
  obtain ⟨s1, s2⟩ := put2 (.slice a4 P3.length c4) (.slice b4 Z192.length d4) s_0 s_1
  have hne : w.heap.size ≠ w1.heap.size := by omega
  have R0 := ((set_ne (w4.setCell ⟨w1.heap.size, 0, none⟩ (.slice a4 P3.length c4)) (b := w.heap.size) (g := w1.heap.size) 0 1 (.slice b4 Z192.length d4) hne).trans (set_ne w4 0 0 (.slice a4 P3.length c4) hne)).trans r_0
  have R1 := ((set_ne (w4.setCell ⟨w1.heap.size, 0, none⟩ (.slice a4 P3.length c4)) (b := w.heap.size) (g := w1.heap.size) 1 1 (.slice b4 Z192.length d4) hne).trans (set_ne w4 1 0 (.slice a4 P3.length c4) hne)).trans r_1
  obtain ⟨g1, g2⟩ := put2 (.slice a4 P3.length c4) (.slice b4 Z192.length d4) R0 R1
  have hK := HK.base
  have hsz := hK.size
  clear HK
  go_wp2
  refine bodyPost_ret (v := .agg #[.slice a4 P3.length c4, .slice b4 Z192.length d4]) (by simp [results, Try.results46, go_sem, g1, g2]) rfl ⟨a4, c4, b4, d4, rfl, ?_, ?_⟩
  · exact spIn_own (ownsRow_setCell_below (ownsRow_setCell_below (ownsRow_setCell_below (ownsRow_setCell_below (ownsRow_base ho4 hbz4) (by show w1.heap.size < w1.heap.size + 1; omega) _) (by show w1.heap.size < w1.heap.size + 1; omega) _) (by show w.heap.size < w1.heap.size + 1; omega) _) (by show w.heap.size < w1.heap.size + 1; omega) _) (ownsRow_setCell_below (ownsRow_setCell_below (ownsRow_setCell_below (ownsRow_setCell_below (ownsRow_base hu4 hbz4) (by show w1.heap.size < w1.heap.size + 1; omega) _) (by show w1.heap.size < w1.heap.size + 1; omega) _) (by show w.heap.size < w1.heap.size + 1; omega) _) (by show w.heap.size < w1.heap.size + 1; omega) _)
  · exact (((hK.setCell (by show _ ≤ w1.heap.size; omega) _).setCell (by show _ ≤ w1.heap.size; omega) _).setCell (by show _ ≤ w.heap.size; omega) _).setCell (by show _ ≤ w.heap.size; omega) _
set_option maxHeartbeats 4000000 in
set_option maxRecDepth 100000 in
theorem sane_c (w : World) : Calls Try.prog 14 #[] w fun e w' => e = .returned (.bool true) ∧ Below w.heap.size w w' := by
  go_enter Try.func14, Try.ntmps14
  have HK := Kw.start w
  go_wp2_with fail
  refine (three_c _).mono ?_
  rintro e w1 ⟨a, c, a2, c2, rfl, hS, hq⟩
  replace HK := HK.below hq
  clear hq
  go_wp2_with fail
  replace HK := HK.box (vs := [.slice a P3.length c, .slice a2 Z192.length c2]) (t := 25)
  replace hS := hS.below (b_alloc (o := (.cells #[.slice a P3.length c, .slice a2 Z192.length c2] 25)) (Below.refl _ _))
  replace HK := HK.box (vs := [.int .i64 4, .bool false]) (t := 64)
  replace hS := hS.below (b_alloc (o := (.cells #[.int .i64 4, .bool false] 64)) (Below.refl _ _))
  simp only [World.size_alloc] at HK
  refine (s_st1 _ _ _ _ _ hS).mono ?_
  rintro e w2 ⟨b, d, b2, d2, rfl, ho, hu, hq⟩
  replace HK := HK.below hq
  replace hS := hS.below hq
  clear hq
  have hX := spIn_own ho hu
  clear ho hu
  have u_0 := HK.get 0 0 rfl rfl
  have u_1 := HK.get 0 1 rfl rfl
  have u_s := HK.lt 0 rfl
  have s_0 := HK.get 1 0 rfl rfl
  have s_1 := HK.get 1 1 rfl rfl
  have s_s := HK.lt 1 rfl
  go_wp2_with fail
  replace HK := HK.box (vs := [.slice b P3.length d, .slice b2 X192.length d2]) (t := 25)
  replace hS := hS.below (b_alloc (o := (.cells #[.slice b P3.length d, .slice b2 X192.length d2] 25)) (Below.refl _ _))
  replace hX := hX.below (b_alloc (o := (.cells #[.slice b P3.length d, .slice b2 X192.length d2] 25)) (Below.refl _ _))
  replace HK := HK.box (vs := [.int .i64 0, .int .i64 0]) (t := 34)
  replace hS := hS.below (b_alloc (o := (.cells #[.int .i64 0, .int .i64 0] 34)) (Below.refl _ _))
  replace hX := hX.below (b_alloc (o := (.cells #[.int .i64 0, .int .i64 0] 34)) (Below.refl _ _))
  simp only [World.size_alloc] at HK
  clear u_0 u_1 u_s s_0 s_1 s_s
  refine (s_ld1 _ _ _ _ _ hX).mono ?_
  rintro e w3 ⟨rfl, hq⟩
  replace HK := HK.below hq
  replace hS := hS.below hq
  replace hX := hX.below hq
  clear hq
  have u_0 := HK.get 2 0 rfl rfl
  have u_1 := HK.get 2 1 rfl rfl
  have u_s := HK.lt 2 rfl
  have s_0 := HK.get 3 0 rfl rfl
  have s_1 := HK.get 3 1 rfl rfl
  have s_s := HK.lt 3 rfl
  go_wp2_with fail
  replace HK := HK.box (vs := [.int .i64 0, .int .i64 0]) (t := 34)
  replace hS := hS.below (b_alloc (o := (.cells #[.int .i64 0, .int .i64 0] 34)) (Below.refl _ _))
  clear u_0 u_1 u_s s_0 s_1 s_s
  refine (s_st2 _ _ _ _ _ hS).mono ?_
  rintro e w4 ⟨rfl, hq⟩
  replace HK := HK.below hq
  replace hS := hS.below hq
  clear hq
  have u_0 := HK.get 3 0 rfl rfl
  have u_1 := HK.get 3 1 rfl rfl
  have u_s := HK.lt 3 rfl
  have s_0 := HK.get 4 0 rfl rfl
  have s_1 := HK.get 4 1 rfl rfl
  have s_s := HK.lt 4 rfl
  go_wp2_with fail
  replace HK := HK.alloc (o := (.cells #[.slice none 0 0, .slice none 0 0] 25))
  replace hS := hS.below (b_alloc (o := (.cells #[.slice none 0 0, .slice none 0 0] 25)) (Below.refl _ _))
  replace HK := HK.box (vs := [.int .i64 3, .int .i64 64]) (t := 34)
  replace hS := hS.below (b_alloc (o := (.cells #[.int .i64 3, .int .i64 64] 34)) (Below.refl _ _))
  simp only [World.size_alloc] at HK
  clear u_0 u_1 u_s s_0 s_1 s_s
  refine (s_ld2 _ _ _ _ _ hS).mono ?_
  rintro e w5 ⟨rfl, hq⟩
  replace HK := HK.below hq
  replace hS := hS.below hq
  clear hq
  have u_0 := HK.get 4 0 rfl rfl
  have u_1 := HK.get 4 1 rfl rfl
  have u_s := HK.lt 4 rfl
  have s_0 := HK.get 5 0 rfl rfl
  have s_1 := HK.get 5 1 rfl rfl
  have s_s := HK.lt 5 rfl
  go_wp2_with fail
  replace HK := HK.box (vs := [.int .i64 2, .int .i64 128]) (t := 34)
  replace hS := hS.below (b_alloc (o := (.cells #[.int .i64 2, .int .i64 128] 34)) (Below.refl _ _))
  clear u_0 u_1 u_s s_0 s_1 s_s
  refine (s_fe _ _ _ _ _ hS).mono ?_
  rintro e w6 ⟨av, cv, rfl, hq⟩
  replace HK := HK.below hq
  replace hS := hS.below hq
  clear hq
  have u_0 := HK.get 5 0 rfl rfl
  have u_1 := HK.get 5 1 rfl rfl
  have u_s := HK.lt 5 rfl
  have s_0 := HK.get 6 0 rfl rfl
  have s_1 := HK.get 6 1 rfl rfl
  have s_s := HK.lt 6 rfl
  go_wp2_with fail
  clear u_0 u_1 u_s s_0 s_1 s_s
  refine (s_pe _ _ _ _ _ hS).mono ?_
  rintro e w7 ⟨rfl, hq⟩
  replace HK := HK.below hq
  replace hS := hS.below hq
  clear hq
  have u_0 := HK.get 5 0 rfl rfl
  have u_1 := HK.get 5 1 rfl rfl
  have u_s := HK.lt 5 rfl
  have s_0 := HK.get 6 0 rfl rfl
  have s_1 := HK.get 6 1 rfl rfl
  have s_s := HK.lt 6 rfl
  go_wp2_with fail
  replace HK := HK.box (vs := [.int .i64 1, .int .i64 192]) (t := 34)
  replace hS := hS.below (b_alloc (o := (.cells #[.int .i64 1, .int .i64 192] 34)) (Below.refl _ _))
  clear u_0 u_1 u_s s_0 s_1 s_s
  refine (s_p4 _ _ _ _ _ hS).mono ?_
  rintro e w8 ⟨rfl, hq⟩
  replace HK := HK.below hq
  replace hS := hS.below hq
  clear hq
  have u_0 := HK.get 6 0 rfl rfl
  have u_1 := HK.get 6 1 rfl rfl
  have u_s := HK.lt 6 rfl
  have s_0 := HK.get 7 0 rfl rfl
  have s_1 := HK.get 7 1 rfl rfl
  have s_s := HK.lt 7 rfl
  go_wp2_with fail
  replace HK := HK.alloc (o := (.cells #[.slice none 0 0, .slice none 0 0] 25))
  replace hS := hS.below (b_alloc (o := (.cells #[.slice none 0 0, .slice none 0 0] 25)) (Below.refl _ _))
  clear u_0 u_1 u_s s_0 s_1 s_s
  refine (s_pd _ _ _ _ _ hS).mono ?_
  rintro e w9 ⟨rfl, hq⟩
  replace HK := HK.below hq
  replace hS := hS.below hq
  clear hq
  have n_0 := HK.get 0 0 rfl rfl
  have n_1 := HK.get 0 1 rfl rfl
  have n_s := HK.lt 0 rfl
  have n_t := Nat.lt_succ_of_lt n_s
  have k_0 := HK.get 1 0 rfl rfl
  have k_1 := HK.get 1 1 rfl rfl
  have k_s := HK.lt 1 rfl
  have k_t := Nat.lt_succ_of_lt k_s
  have i_0 := HK.get 2 0 rfl rfl
  have i_1 := HK.get 2 1 rfl rfl
  have i_s := HK.lt 2 rfl
  have i_t := Nat.lt_succ_of_lt i_s
  have g_0 := HK.get 3 0 rfl rfl
  have g_1 := HK.get 3 1 rfl rfl
  have g_s := HK.lt 3 rfl
  have g_t := Nat.lt_succ_of_lt g_s
  have f_0 := HK.get 4 0 rfl rfl
  have f_1 := HK.get 4 1 rfl rfl
  have f_s := HK.lt 4 rfl
  have f_t := Nat.lt_succ_of_lt f_s
  have u_0 := HK.get 6 0 rfl rfl
  have u_1 := HK.get 6 1 rfl rfl
  have u_s := HK.lt 6 rfl
  have u_t := Nat.lt_succ_of_lt u_s
  have s_0 := HK.get 7 0 rfl rfl
  have s_1 := HK.get 7 1 rfl rfl
  have s_s := HK.lt 7 rfl
  have s_t := Nat.lt_succ_of_lt s_s
  go_wp2_with fail
  replace HK := HK.alloc (o := (.cells #[.slice none 0 0, .slice none 0 0] 25))
  replace hS := hS.below (b_alloc (o := (.cells #[.slice none 0 0, .slice none 0 0] 25)) (Below.refl _ _))
  replace HK := HK.box (vs := [.int .i64 0, .int .i64 0]) (t := 34)
  replace hS := hS.below (b_alloc (o := (.cells #[.int .i64 0, .int .i64 0] 34)) (Below.refl _ _))
  simp only [World.size_alloc] at HK
  clear n_0 n_1 n_s n_t k_0 k_1 k_s k_t i_0 i_1 i_s i_t g_0 g_1 g_s g_t f_0 f_1 f_s f_t u_0 u_1 u_s u_t s_0 s_1 s_s s_t
  refine (s_ck _ _ _ _ _ hS).mono ?_
  rintro e w10 ⟨rfl, hq⟩
  replace HK := HK.below hq
  replace hS := hS.below hq
  clear hq
  have n_0 := HK.get 1 0 rfl rfl
  have n_1 := HK.get 1 1 rfl rfl
  have n_s := HK.lt 1 rfl
  have n_t := Nat.lt_succ_of_lt n_s
  have k_0 := HK.get 2 0 rfl rfl
  have k_1 := HK.get 2 1 rfl rfl
  have k_s := HK.lt 2 rfl
  have k_t := Nat.lt_succ_of_lt k_s
  have i_0 := HK.get 3 0 rfl rfl
  have i_1 := HK.get 3 1 rfl rfl
  have i_s := HK.lt 3 rfl
  have i_t := Nat.lt_succ_of_lt i_s
  have g_0 := HK.get 4 0 rfl rfl
  have g_1 := HK.get 4 1 rfl rfl
  have g_s := HK.lt 4 rfl
  have g_t := Nat.lt_succ_of_lt g_s
  have f_0 := HK.get 5 0 rfl rfl
  have f_1 := HK.get 5 1 rfl rfl
  have f_s := HK.lt 5 rfl
  have f_t := Nat.lt_succ_of_lt f_s
  have s_0 := HK.get 8 0 rfl rfl
  have s_1 := HK.get 8 1 rfl rfl
  have s_s := HK.lt 8 rfl
  have s_t := Nat.lt_succ_of_lt s_s
  have hK := HK.base
  clear HK
  go_wp2
  go_ret
  exact ⟨rfl, hK⟩
end Go.Proofs.Ytdbcbmdekdfdoaa
