/- WHAT IS PROVED: mem.Protect, mem.Seal, for every space and all numbers. CONDITIONS: the slices' cells hold the lists. -/
import Derived.Test.YtdbcbmdekdfdoaaPm
import Derived.Test.YtdbcbmdekdfdoaaMk
namespace Go.Proofs.Ytdbcbmdekdfdoaa
open Go Go.RowKit Go.QrBits Go.QrMem

/-- The space of an error. -/
abbrev noSp : Value := .agg #[.slice none 0 0, .slice none 0 0]
def SpPost (perm bytes : List Int) (w : World) (e : Ending) (w' : World) : Prop := ∃ v : Value, e = .returned (.tuple #[v, .int .i64 0]) ∧ OwnSp w.heap.size w' v perm bytes ∧ Below w.heap.size w w'

/-- The parameters of a function over a space. -/
structure SpIn (w : World) (a : Option Addr) (c : Nat) (a2 : Option Addr) (c2 : Nat) (perm bytes : List Int) : Prop where
  v1 : SlV a perm.length c
  v2 : SlV a2 bytes.length c2
  s1 : SlAt w a (iV perm)
  s2 : SlAt w a2 (bV bytes)
theorem SpIn.below {w w' : World} {a : Option Addr} {c : Nat} {a2 : Option Addr} {c2 : Nat} {perm bytes : List Int} (h : SpIn w a c a2 c2 perm bytes) (hq : Below w.heap.size w w') : SpIn w' a c a2 c2 perm bytes :=
  ⟨h.v1, h.v2, h.s1.below hq, h.s2.below hq⟩
theorem chk_len4 {perm : List Int} {n : Nat} (h : chk perm n = true) : perm.length ≤ 32 ∧ n = perm.length * 64 := by
  simp only [chk, Bool.and_eq_true, decide_eq_true_eq, beq_iff_eq] at h; exact h.1
theorem chk_le {perm bytes : List Int} (h : chk perm bytes.length = true) : perm.length ≤ 4096 ∧ bytes.length ≤ 4096 := by
  have := chk_len4 h; omega
theorem SlV.max {a : Option Addr} {n c : Nat} (h : SlV a n c) : n ≤ maxLen := Nat.le_trans h.1 h.2.1
theorem check_y (a : Option Addr) (c : Nat) (a2 : Option Addr) (c2 : Nat) (perm bytes : List Int) (w : World) (h : SpIn w a c a2 c2 perm bytes) (hk : chk perm bytes.length = true) :
    Calls Try.prog 21 #[.agg #[.slice a perm.length c, .slice a2 bytes.length c2]] w fun e w' => e = .returned (.int .i64 0) ∧ Below w.heap.size w w' := by
  have := check_c a c a2 bytes.length c2 perm w h.s1 h.v2.max; rwa [eS_y hk] at this
theorem check_n (a : Option Addr) (c : Nat) (a2 : Option Addr) (c2 : Nat) (perm bytes : List Int) (w : World) (h : SpIn w a c a2 c2 perm bytes) (hk : chk perm bytes.length = false) :
    Calls Try.prog 21 #[.agg #[.slice a perm.length c, .slice a2 bytes.length c2]] w fun e w' => e = .returned (.int .i64 30) ∧ Below w.heap.size w w' := by
  have := check_c a c a2 bytes.length c2 perm w h.s1 h.v2.max; rwa [eS_n hk] at this
theorem has_y (a : Option Addr) (n c : Nat) (v : Value) (k : Nat) (w : World) (h : k < n) : Calls Try.prog 47 #[.agg #[.slice a n c, v], .int .i64 (k : Int)] w fun e w' => e = .returned (.bool true) ∧ Below w.heap.size w w' := by
  have := has_c a n c v k w; rwa [show (decide ((0 : Int) ≤ k) && decide ((k : Int) < n)) = true by simp; omega] at this
theorem has_n (a : Option Addr) (n c : Nat) (v : Value) (p : Int) (w : World) (h : ¬ (0 ≤ p ∧ p < n)) : Calls Try.prog 47 #[.agg #[.slice a n c, v], .int .i64 p] w fun e w' => e = .returned (.bool false) ∧ Below w.heap.size w w' := by
  have := has_c a n c v p w; rwa [show (decide (0 ≤ p) && decide (p < n)) = false by simp; omega] at this
theorem permit_c (a : Option Addr) (c : Nat) (a2 : Option Addr) (c2 : Nat) (perm bytes : List Int) (k : Nat) (p : Int) (w : World) (h : SpIn w a c a2 c2 perm bytes) (hc : chk perm bytes.length = true) (hk : k < perm.length) :
    Calls Try.prog 49 #[.agg #[.slice a perm.length c, .slice a2 bytes.length c2], .int .i64 (k : Int), .int .i64 p] w (ClonedSp (perm.set k p) bytes w) :=
  permitting_c a c a2 c2 perm bytes k p w h.v1 h.v2 h.s1 h.s2 (chk_le hc).1 (chk_le hc).2 hk
/-- The cell of a page. -/
theorem SpIn.shape {w : World} {a : Option Addr} {c : Nat} {a2 : Option Addr} {c2 k : Nat} {q : Int} {perm bytes : List Int} (h : SpIn w a c a2 c2 perm bytes) (hk : perm[k]? = some q) : ∃ b off : Nat, a = some ⟨b, off, none⟩ := by
  rcases h.s1 with h | ⟨b, off, ha, _⟩
  · have : perm = [] := by simpa [iV] using h
    subst this; simp at hk
  · exact ⟨b, off, ha⟩
theorem SpIn.cell {w : World} {b off : Nat} {c : Nat} {a2 : Option Addr} {c2 k : Nat} {q : Int} {perm bytes : List Int} (h : SpIn w (some ⟨b, off, none⟩) c a2 c2 perm bytes) (hk : perm[k]? = some q) : w.cell? ⟨b, off + k, none⟩ = some (.int .i64 q) := by
  rcases h.s1 with h | ⟨b', off', ha, _, hc⟩
  · have : perm = [] := by simpa [iV] using h
    subst this; simp at hk
  · cases ha; exact hc k _ (iV_get hk)
/-- A space of one's own, stored into the result's box. -/
theorem sp_end {w w1 w' : World} {b n n2 : Nat} {a : Option Addr} {c : Nat} {a2 : Option Addr} {c2 : Nat} {perm bytes : List Int} (hK : Below w.heap.size w w') (hb : w.heap.size ≤ b) (hbw : b < w1.heap.size) (hn : n = perm.length) (hn2 : n2 = bytes.length)
    (h1 : w'.ownsRow w1.heap.size 3 1 (.slice a n c) n (iV perm)) (h2 : w'.ownsRow w1.heap.size 5 1 (.slice a2 n2 c2) n2 (bV bytes)) :
    SpPost perm bytes w (.returned (.tuple #[.agg #[.slice a n c, .slice a2 n2 c2], .int .i64 0])) ((w'.setCell ⟨b, 0, none⟩ (.slice a n c)).setCell ⟨b, 1, none⟩ (.slice a2 n2 c2)) := by
  subst hn hn2
  refine ⟨_, rfl, ⟨a, c, a2, c2, rfl, ?_, ?_⟩, (hK.setCell hb _).setCell hb _⟩
  · exact ownsRow_base (ownsRow_setCell_below (ownsRow_setCell_below h1 hbw _) hbw _) (by omega)
  · exact ownsRow_base (ownsRow_setCell_below (ownsRow_setCell_below h2 hbw _) hbw _) (by omega)
set_option maxHeartbeats 4000000 in
set_option maxRecDepth 100000 in
theorem seal_y (a : Option Addr) (c : Nat) (a2 : Option Addr) (c2 : Nat) (perm bytes : List Int) (k : Nat) (w : World) (hs : SpIn w a c a2 c2 perm bytes) (hc : chk perm bytes.length = true) (hk : k < perm.length) :
    Calls Try.prog 17 #[.agg #[.slice a perm.length c, .slice a2 bytes.length c2], .int .i64 (k : Int)] w (SpPost (perm.set k 4) bytes w) := by
  have HC := Lib.hid hc
  obtain ⟨hl1, hl2⟩ := chk_le hc
  have HS := Lib.hid hs
  clear hc hs
  go_enter Try.func17, Try.ntmps17
  have HK := Kw.start w
  go_wp2_with fail
  replace HK := HK.box (vs := [.slice a perm.length c, .slice a2 bytes.length c2]) (t := 25)
  replace HK := HK.box (vs := [.slice none 0 0, .slice none 0 0]) (t := 25)
  simp only [World.size_alloc] at HK
  refine (check_y _ _ _ _ _ _ _ (HS.out.below HK.base) HC.out).mono ?_
  rintro e w1 ⟨rfl, hq⟩
  replace HK := HK.below hq
  have r_0 := HK.get 0 0 rfl rfl
  have r_f0 := HK.fz 0 0 rfl
  have r_1 := HK.get 0 1 rfl rfl
  have r_f1 := HK.fz 0 1 rfl
  have r_s := HK.lt 0 rfl
  have p_0 := HK.get 1 0 rfl rfl
  have p_1 := HK.get 1 1 rfl rfl
  have p_s := HK.lt 1 rfl
  go_wp2_with fail
  clear r_0 r_f0 r_1 r_f1 r_s p_0 p_1 p_s
  refine (has_y _ _ _ _ k _ hk).mono ?_
  rintro e w2 ⟨rfl, hq⟩
  replace HK := HK.below hq
  have r_0 := HK.get 0 0 rfl rfl
  have r_f0 := HK.fz 0 0 rfl
  have r_1 := HK.get 0 1 rfl rfl
  have r_f1 := HK.fz 0 1 rfl
  have r_s := HK.lt 0 rfl
  have p_0 := HK.get 1 0 rfl rfl
  have p_1 := HK.get 1 1 rfl rfl
  have p_s := HK.lt 1 rfl
  go_wp2_with fail
  have r_b := r_s
  clear r_0 r_f0 r_1 r_f1 r_s p_0 p_1 p_s
  refine (permit_c _ _ _ _ _ _ k 4 _ (HS.out.below HK.base) HC.out hk).mono ?_
  rintro e w3 ⟨v, rfl, ⟨a', c', a2', c2', rfl, ho1, ho2⟩, hq⟩
  replace HK := HK.below hq
  rw [List.length_set] at ho1
  have r_0 := HK.get 0 0 rfl rfl
  have r_f0 := HK.fz 0 0 rfl
  have r_1 := HK.get 0 1 rfl rfl
  have r_f1 := HK.fz 0 1 rfl
  have r_s := HK.lt 0 rfl
  have hK := HK.base
  clear HK hq
  obtain ⟨g1, g2⟩ := put2 (.slice a' perm.length c') (.slice a2' bytes.length c2') r_0 r_1
  go_wp2
  refine bodyPost_ret (v := .tuple #[.agg #[.slice a' perm.length c', .slice a2' bytes.length c2'], .int .i64 0]) (by simp [results, Try.results17, go_sem, g1, g2]) rfl ?_
  exact sp_end (w1 := w2) hK (by omega) (by have := r_b; omega) (by simp) rfl ho1 ho2
set_option maxHeartbeats 4000000 in
set_option maxRecDepth 100000 in
theorem seal_n (a : Option Addr) (c : Nat) (a2 : Option Addr) (c2 : Nat) (perm bytes : List Int) (p : Int) (w : World) (hs : SpIn w a c a2 c2 perm bytes) (hc : chk perm bytes.length = false) :
    Calls Try.prog 17 #[.agg #[.slice a perm.length c, .slice a2 bytes.length c2], .int .i64 p] w fun e w' => e = .returned (.tuple #[noSp, .int .i64 30]) ∧ Below w.heap.size w w' := by
  have HC := Lib.hid hc
  have HS := Lib.hid hs
  clear hc hs
  go_enter Try.func17, Try.ntmps17
  have HK := Kw.start w
  go_wp2_with fail
  replace HK := HK.box (vs := [.slice a perm.length c, .slice a2 bytes.length c2]) (t := 25)
  replace HK := HK.box (vs := [.slice none 0 0, .slice none 0 0]) (t := 25)
  simp only [World.size_alloc] at HK
  refine (check_n _ _ _ _ _ _ _ (HS.out.below HK.base) HC.out).mono ?_
  rintro e w1 ⟨rfl, hq⟩
  replace HK := HK.below hq
  have r_0 := HK.get 0 0 rfl rfl
  have r_f0 := HK.fz 0 0 rfl
  have r_1 := HK.get 0 1 rfl rfl
  have r_f1 := HK.fz 0 1 rfl
  have r_s := HK.lt 0 rfl
  have p_0 := HK.get 1 0 rfl rfl
  have p_1 := HK.get 1 1 rfl rfl
  have p_s := HK.lt 1 rfl
  have hK := HK.base
  obtain ⟨g1, g2⟩ := put2 (.slice none 0 0) (.slice none 0 0) r_0 r_1
  clear HK
  go_wp2
  refine bodyPost_ret (v := .tuple #[noSp, .int .i64 30]) (by simp [results, Try.results17, go_sem, g1, g2]) rfl ?_
  exact ⟨rfl, (hK.setCell (by simp) _).setCell (by simp) _⟩
set_option maxHeartbeats 4000000 in
set_option maxRecDepth 100000 in
theorem seal_p (a : Option Addr) (c : Nat) (a2 : Option Addr) (c2 : Nat) (perm bytes : List Int) (p : Int) (w : World) (hs : SpIn w a c a2 c2 perm bytes) (hc : chk perm bytes.length = true) (hk : ¬ (0 ≤ p ∧ p < perm.length)) :
    Calls Try.prog 17 #[.agg #[.slice a perm.length c, .slice a2 bytes.length c2], .int .i64 p] w fun e w' => e = .returned (.tuple #[noSp, .int .i64 31]) ∧ Below w.heap.size w w' := by
  have HC := Lib.hid hc
  obtain ⟨hl1, hl2⟩ := chk_le hc
  have HS := Lib.hid hs
  clear hc hs
  go_enter Try.func17, Try.ntmps17
  have HK := Kw.start w
  go_wp2_with fail
  replace HK := HK.box (vs := [.slice a perm.length c, .slice a2 bytes.length c2]) (t := 25)
  replace HK := HK.box (vs := [.slice none 0 0, .slice none 0 0]) (t := 25)
  simp only [World.size_alloc] at HK
  refine (check_y _ _ _ _ _ _ _ (HS.out.below HK.base) HC.out).mono ?_
  rintro e w1 ⟨rfl, hq⟩
  replace HK := HK.below hq
  have r_0 := HK.get 0 0 rfl rfl
  have r_f0 := HK.fz 0 0 rfl
  have r_1 := HK.get 0 1 rfl rfl
  have r_f1 := HK.fz 0 1 rfl
  have r_s := HK.lt 0 rfl
  have p_0 := HK.get 1 0 rfl rfl
  have p_1 := HK.get 1 1 rfl rfl
  have p_s := HK.lt 1 rfl
  go_wp2_with fail
  clear r_0 r_f0 r_1 r_f1 r_s p_0 p_1 p_s
  refine (has_n _ _ _ _ _ _ hk).mono ?_
  rintro e w2 ⟨rfl, hq⟩
  replace HK := HK.below hq
  have r_0 := HK.get 0 0 rfl rfl
  have r_f0 := HK.fz 0 0 rfl
  have r_1 := HK.get 0 1 rfl rfl
  have r_f1 := HK.fz 0 1 rfl
  have r_s := HK.lt 0 rfl
  have p_0 := HK.get 1 0 rfl rfl
  have p_1 := HK.get 1 1 rfl rfl
  have p_s := HK.lt 1 rfl
  have hK := HK.base
  obtain ⟨g1, g2⟩ := put2 (.slice none 0 0) (.slice none 0 0) r_0 r_1
  clear HK
  go_wp2
  refine bodyPost_ret (v := .tuple #[noSp, .int .i64 31]) (by simp [results, Try.results17, go_sem, g1, g2]) rfl ?_
  exact ⟨rfl, (hK.setCell (by simp) _).setCell (by simp) _⟩
set_option maxHeartbeats 4000000 in
set_option maxRecDepth 100000 in
theorem protect_n (a : Option Addr) (c : Nat) (a2 : Option Addr) (c2 : Nat) (perm bytes : List Int) (p q : Int) (w : World) (hs : SpIn w a c a2 c2 perm bytes) (hc : chk perm bytes.length = false) :
    Calls Try.prog 16 #[.agg #[.slice a perm.length c, .slice a2 bytes.length c2], .int .i64 p, .int .i64 q] w fun e w' => e = .returned (.tuple #[noSp, .int .i64 30]) ∧ Below w.heap.size w w' := by
  have HC := Lib.hid hc
  have HS := Lib.hid hs
  clear hc hs
  go_enter Try.func16, Try.ntmps16
  have HK := Kw.start w
  go_wp2_with fail
  replace HK := HK.box (vs := [.slice a perm.length c, .slice a2 bytes.length c2]) (t := 25)
  replace HK := HK.box (vs := [.slice none 0 0, .slice none 0 0]) (t := 25)
  simp only [World.size_alloc] at HK
  refine (check_n _ _ _ _ _ _ _ (HS.out.below HK.base) HC.out).mono ?_
  rintro e w1 ⟨rfl, hq⟩
  replace HK := HK.below hq
  have r_0 := HK.get 0 0 rfl rfl
  have r_f0 := HK.fz 0 0 rfl
  have r_1 := HK.get 0 1 rfl rfl
  have r_f1 := HK.fz 0 1 rfl
  have r_s := HK.lt 0 rfl
  have p_0 := HK.get 1 0 rfl rfl
  have p_1 := HK.get 1 1 rfl rfl
  have p_s := HK.lt 1 rfl
  have hK := HK.base
  obtain ⟨g1, g2⟩ := put2 (.slice none 0 0) (.slice none 0 0) r_0 r_1
  clear HK
  go_wp2
  refine bodyPost_ret (v := .tuple #[noSp, .int .i64 30]) (by simp [results, Try.results16, go_sem, g1, g2]) rfl ?_
  exact ⟨rfl, (hK.setCell (by simp) _).setCell (by simp) _⟩
set_option maxHeartbeats 4000000 in
set_option maxRecDepth 100000 in
theorem protect_p (a : Option Addr) (c : Nat) (a2 : Option Addr) (c2 : Nat) (perm bytes : List Int) (p q : Int) (w : World) (hs : SpIn w a c a2 c2 perm bytes) (hc : chk perm bytes.length = true) (hk : ¬ (0 ≤ p ∧ p < perm.length)) :
    Calls Try.prog 16 #[.agg #[.slice a perm.length c, .slice a2 bytes.length c2], .int .i64 p, .int .i64 q] w fun e w' => e = .returned (.tuple #[noSp, .int .i64 31]) ∧ Below w.heap.size w w' := by
  have HC := Lib.hid hc
  obtain ⟨hl1, hl2⟩ := chk_le hc
  have HS := Lib.hid hs
  clear hc hs
  go_enter Try.func16, Try.ntmps16
  have HK := Kw.start w
  go_wp2_with fail
  replace HK := HK.box (vs := [.slice a perm.length c, .slice a2 bytes.length c2]) (t := 25)
  replace HK := HK.box (vs := [.slice none 0 0, .slice none 0 0]) (t := 25)
  simp only [World.size_alloc] at HK
  refine (check_y _ _ _ _ _ _ _ (HS.out.below HK.base) HC.out).mono ?_
  rintro e w1 ⟨rfl, hq⟩
  replace HK := HK.below hq
  have r_0 := HK.get 0 0 rfl rfl
  have r_f0 := HK.fz 0 0 rfl
  have r_1 := HK.get 0 1 rfl rfl
  have r_f1 := HK.fz 0 1 rfl
  have r_s := HK.lt 0 rfl
  have p_0 := HK.get 1 0 rfl rfl
  have p_1 := HK.get 1 1 rfl rfl
  have p_s := HK.lt 1 rfl
  go_wp2_with fail
  clear r_0 r_f0 r_1 r_f1 r_s p_0 p_1 p_s
  refine (has_n _ _ _ _ _ _ hk).mono ?_
  rintro e w2 ⟨rfl, hq⟩
  replace HK := HK.below hq
  have r_0 := HK.get 0 0 rfl rfl
  have r_f0 := HK.fz 0 0 rfl
  have r_1 := HK.get 0 1 rfl rfl
  have r_f1 := HK.fz 0 1 rfl
  have r_s := HK.lt 0 rfl
  have p_0 := HK.get 1 0 rfl rfl
  have p_1 := HK.get 1 1 rfl rfl
  have p_s := HK.lt 1 rfl
  have hK := HK.base
  obtain ⟨g1, g2⟩ := put2 (.slice none 0 0) (.slice none 0 0) r_0 r_1
  clear HK
  go_wp2
  refine bodyPost_ret (v := .tuple #[noSp, .int .i64 31]) (by simp [results, Try.results16, go_sem, g1, g2]) rfl ?_
  exact ⟨rfl, (hK.setCell (by simp) _).setCell (by simp) _⟩
set_option maxHeartbeats 4000000 in
set_option maxRecDepth 100000 in
theorem protect_4 (a : Option Addr) (c : Nat) (a2 : Option Addr) (c2 : Nat) (perm bytes : List Int) (k : Nat) (q : Int) (w : World) (hs : SpIn w a c a2 c2 perm bytes) (hc : chk perm bytes.length = true) (hk : k < perm.length) (hq0 : perm[k]? = some 4) :
    Calls Try.prog 16 #[.agg #[.slice a perm.length c, .slice a2 bytes.length c2], .int .i64 (k : Int), .int .i64 q] w fun e w' => e = .returned (.tuple #[noSp, .int .i64 31]) ∧ Below w.heap.size w w' := by
  obtain ⟨b, off, rfl⟩ := hs.shape hq0
  have HQ := Lib.hid hq0
  clear hq0
  have k0 : (0 : Int) ≤ (k : Int) := Int.natCast_nonneg _
  have k1 : (k : Int) < (perm.length : Int) := by omega
  have HC := Lib.hid hc
  obtain ⟨hl1, hl2⟩ := chk_le hc
  have HS := Lib.hid hs
  clear hc hs
  go_enter Try.func16, Try.ntmps16
  have HK := Kw.start w
  go_wp2_with fail
  replace HK := HK.box (vs := [.slice (some ⟨b, off, none⟩) perm.length c, .slice a2 bytes.length c2]) (t := 25)
  replace HK := HK.box (vs := [.slice none 0 0, .slice none 0 0]) (t := 25)
  simp only [World.size_alloc] at HK
  refine (check_y _ _ _ _ _ _ _ (HS.out.below HK.base) HC.out).mono ?_
  rintro e w1 ⟨rfl, hq⟩
  replace HK := HK.below hq
  have r_0 := HK.get 0 0 rfl rfl
  have r_f0 := HK.fz 0 0 rfl
  have r_1 := HK.get 0 1 rfl rfl
  have r_f1 := HK.fz 0 1 rfl
  have r_s := HK.lt 0 rfl
  have p_0 := HK.get 1 0 rfl rfl
  have p_1 := HK.get 1 1 rfl rfl
  have p_s := HK.lt 1 rfl
  go_wp2_with fail
  clear r_0 r_f0 r_1 r_f1 r_s p_0 p_1 p_s
  refine (has_y _ _ _ _ k _ hk).mono ?_
  rintro e w2 ⟨rfl, hq⟩
  replace HK := HK.below hq
  have pc := (HS.out.below HK.base).cell HQ.out
  have r_0 := HK.get 0 0 rfl rfl
  have r_f0 := HK.fz 0 0 rfl
  have r_1 := HK.get 0 1 rfl rfl
  have r_f1 := HK.fz 0 1 rfl
  have r_s := HK.lt 0 rfl
  have p_0 := HK.get 1 0 rfl rfl
  have p_1 := HK.get 1 1 rfl rfl
  have p_s := HK.lt 1 rfl
  have hK := HK.base
  obtain ⟨g1, g2⟩ := put2 (.slice none 0 0) (.slice none 0 0) r_0 r_1
  clear HK
  go_wp2
  refine bodyPost_ret (v := .tuple #[noSp, .int .i64 31]) (by simp [results, Try.results16, go_sem, g1, g2]) rfl ?_
  exact ⟨rfl, (hK.setCell (by simp) _).setCell (by simp) _⟩
set_option maxHeartbeats 4000000 in
set_option maxRecDepth 100000 in
theorem protect_d (a : Option Addr) (c : Nat) (a2 : Option Addr) (c2 : Nat) (perm bytes : List Int) (k : Nat) (x q : Int) (w : World) (hs : SpIn w a c a2 c2 perm bytes) (hc : chk perm bytes.length = true) (hk : k < perm.length) (hq0 : perm[k]? = some x) (h4 : (x == 4) = false) (hd : dB q = false) :
    Calls Try.prog 16 #[.agg #[.slice a perm.length c, .slice a2 bytes.length c2], .int .i64 (k : Int), .int .i64 q] w fun e w' => e = .returned (.tuple #[noSp, .int .i64 31]) ∧ Below w.heap.size w w' := by
  obtain ⟨b, off, rfl⟩ := hs.shape hq0
  have HQ := Lib.hid hq0
  clear hq0
  have k0 : (0 : Int) ≤ (k : Int) := Int.natCast_nonneg _
  have k1 : (k : Int) < (perm.length : Int) := by omega
  have HC := Lib.hid hc
  obtain ⟨hl1, hl2⟩ := chk_le hc
  have HS := Lib.hid hs
  clear hc hs
  go_enter Try.func16, Try.ntmps16
  have HK := Kw.start w
  go_wp2_with fail
  replace HK := HK.box (vs := [.slice (some ⟨b, off, none⟩) perm.length c, .slice a2 bytes.length c2]) (t := 25)
  replace HK := HK.box (vs := [.slice none 0 0, .slice none 0 0]) (t := 25)
  simp only [World.size_alloc] at HK
  refine (check_y _ _ _ _ _ _ _ (HS.out.below HK.base) HC.out).mono ?_
  rintro e w1 ⟨rfl, hq⟩
  replace HK := HK.below hq
  have r_0 := HK.get 0 0 rfl rfl
  have r_f0 := HK.fz 0 0 rfl
  have r_1 := HK.get 0 1 rfl rfl
  have r_f1 := HK.fz 0 1 rfl
  have r_s := HK.lt 0 rfl
  have p_0 := HK.get 1 0 rfl rfl
  have p_1 := HK.get 1 1 rfl rfl
  have p_s := HK.lt 1 rfl
  go_wp2_with fail
  clear r_0 r_f0 r_1 r_f1 r_s p_0 p_1 p_s
  refine (has_y _ _ _ _ k _ hk).mono ?_
  rintro e w2 ⟨rfl, hq⟩
  replace HK := HK.below hq
  have pc := (HS.out.below HK.base).cell HQ.out
  have r_0 := HK.get 0 0 rfl rfl
  have r_f0 := HK.fz 0 0 rfl
  have r_1 := HK.get 0 1 rfl rfl
  have r_f1 := HK.fz 0 1 rfl
  have r_s := HK.lt 0 rfl
  have p_0 := HK.get 1 0 rfl rfl
  have p_1 := HK.get 1 1 rfl rfl
  have p_s := HK.lt 1 rfl
  go_wp2_with fail
  clear r_0 r_f0 r_1 r_f1 r_s p_0 p_1 p_s
  refine (data_n _ _ hd).mono ?_
  rintro e w' ⟨rfl, rfl⟩
  have r_0 := HK.get 0 0 rfl rfl
  have r_f0 := HK.fz 0 0 rfl
  have r_1 := HK.get 0 1 rfl rfl
  have r_f1 := HK.fz 0 1 rfl
  have r_s := HK.lt 0 rfl
  have p_0 := HK.get 1 0 rfl rfl
  have p_1 := HK.get 1 1 rfl rfl
  have p_s := HK.lt 1 rfl
  have hK := HK.base
  obtain ⟨g1, g2⟩ := put2 (.slice none 0 0) (.slice none 0 0) r_0 r_1
  clear HK
  go_wp2
  refine bodyPost_ret (v := .tuple #[noSp, .int .i64 31]) (by simp [results, Try.results16, go_sem, g1, g2]) rfl ?_
  exact ⟨rfl, (hK.setCell (by simp) _).setCell (by simp) _⟩
set_option maxHeartbeats 4000000 in
set_option maxRecDepth 100000 in
theorem protect_y (a : Option Addr) (c : Nat) (a2 : Option Addr) (c2 : Nat) (perm bytes : List Int) (k : Nat) (x q : Int) (w : World) (hs : SpIn w a c a2 c2 perm bytes) (hc : chk perm bytes.length = true) (hk : k < perm.length) (hq0 : perm[k]? = some x) (h4 : (x == 4) = false) (hd : dB q = true) :
    Calls Try.prog 16 #[.agg #[.slice a perm.length c, .slice a2 bytes.length c2], .int .i64 (k : Int), .int .i64 q] w (SpPost (perm.set k q) bytes w) := by
  obtain ⟨b, off, rfl⟩ := hs.shape hq0
  have HQ := Lib.hid hq0
  clear hq0
  have k0 : (0 : Int) ≤ (k : Int) := Int.natCast_nonneg _
  have k1 : (k : Int) < (perm.length : Int) := by omega
  have HC := Lib.hid hc
  obtain ⟨hl1, hl2⟩ := chk_le hc
  have HS := Lib.hid hs
  clear hc hs
  go_enter Try.func16, Try.ntmps16
  have HK := Kw.start w
  go_wp2_with fail
  replace HK := HK.box (vs := [.slice (some ⟨b, off, none⟩) perm.length c, .slice a2 bytes.length c2]) (t := 25)
  replace HK := HK.box (vs := [.slice none 0 0, .slice none 0 0]) (t := 25)
  simp only [World.size_alloc] at HK
  refine (check_y _ _ _ _ _ _ _ (HS.out.below HK.base) HC.out).mono ?_
  rintro e w1 ⟨rfl, hq⟩
  replace HK := HK.below hq
  have r_0 := HK.get 0 0 rfl rfl
  have r_f0 := HK.fz 0 0 rfl
  have r_1 := HK.get 0 1 rfl rfl
  have r_f1 := HK.fz 0 1 rfl
  have r_s := HK.lt 0 rfl
  have p_0 := HK.get 1 0 rfl rfl
  have p_1 := HK.get 1 1 rfl rfl
  have p_s := HK.lt 1 rfl
  go_wp2_with fail
  clear r_0 r_f0 r_1 r_f1 r_s p_0 p_1 p_s
  refine (has_y _ _ _ _ k _ hk).mono ?_
  rintro e w2 ⟨rfl, hq⟩
  replace HK := HK.below hq
  have pc := (HS.out.below HK.base).cell HQ.out
  have r_0 := HK.get 0 0 rfl rfl
  have r_f0 := HK.fz 0 0 rfl
  have r_1 := HK.get 0 1 rfl rfl
  have r_f1 := HK.fz 0 1 rfl
  have r_s := HK.lt 0 rfl
  have p_0 := HK.get 1 0 rfl rfl
  have p_1 := HK.get 1 1 rfl rfl
  have p_s := HK.lt 1 rfl
  go_wp2_with fail
  clear r_0 r_f0 r_1 r_f1 r_s p_0 p_1 p_s
  refine (data_y _ _ hd).mono ?_
  rintro e w' ⟨rfl, rfl⟩
  clear pc
  have r_0 := HK.get 0 0 rfl rfl
  have r_f0 := HK.fz 0 0 rfl
  have r_1 := HK.get 0 1 rfl rfl
  have r_f1 := HK.fz 0 1 rfl
  have r_s := HK.lt 0 rfl
  have p_0 := HK.get 1 0 rfl rfl
  have p_1 := HK.get 1 1 rfl rfl
  have p_s := HK.lt 1 rfl
  go_wp2_with fail
  have r_b := r_s
  clear r_0 r_f0 r_1 r_f1 r_s p_0 p_1 p_s
  refine (permit_c _ _ _ _ _ _ k q _ (HS.out.below HK.base) HC.out hk).mono ?_
  rintro e w3 ⟨v, rfl, ⟨a', c', a2', c2', rfl, ho1, ho2⟩, hq⟩
  replace HK := HK.below hq
  rw [List.length_set] at ho1
  have r_0 := HK.get 0 0 rfl rfl
  have r_f0 := HK.fz 0 0 rfl
  have r_1 := HK.get 0 1 rfl rfl
  have r_f1 := HK.fz 0 1 rfl
  have r_s := HK.lt 0 rfl
  have hK := HK.base
  clear HK hq
  obtain ⟨g1, g2⟩ := put2 (.slice a' perm.length c') (.slice a2' bytes.length c2') r_0 r_1
  go_wp2
  refine bodyPost_ret (v := .tuple #[.agg #[.slice a' perm.length c', .slice a2' bytes.length c2'], .int .i64 0]) (by simp [results, Try.results16, go_sem, g1, g2]) rfl ?_
  exact sp_end (w1 := w2) hK (by omega) (by have := r_b; omega) (by simp) rfl ho1 ho2
end Go.Proofs.Ytdbcbmdekdfdoaa
