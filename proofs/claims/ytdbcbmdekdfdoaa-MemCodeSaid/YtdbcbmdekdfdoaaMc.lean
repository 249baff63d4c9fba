/- WHAT IS PROVED: taplinelaw03.MemCode walked, over contracts of the functions (letters). CONDITIONS: those contracts. -/
import Derived.Test.YtdbcbmdekdfdoaaMs
import Derived.Test.YtdbcbmdekdfdoaaMv
import Derived.Deep.Cut
import Derived.Deep.CutRange
import Derived.Deep.DeepCutAuto
namespace Go.Proofs.Ytdbcbmdekdfdoaa
open Go Go.RowKit Go.QrBits Go.QrMem

attribute [local go_sem] Oper.semAt_some reg_cell reg_frozen reg_setCell reg_lt reg_lt_add reg_drew reg_of_drew
/-- A part of code: what Fetch, Peek and Access answer there. -/
def FetWay (a : Option Addr) (c : Nat) (a2 : Option Addr) (c2 : Nat) (P B : List Int) (t n : Int) (L : List Int) (ef : Int) : Prop :=
  (ef == 0) = false ∨ (ef = 0 ∧ PeG a c a2 c2 P B t (L.length : Int) L 0 0 0 ∧ AcG a c a2 c2 P B t (L.length : Int) 4 0 0 0 ∧ ((L.length : Int) = n ∨ ((L.length : Int) < n ∧ ∃ kj xj, AcG a c a2 c2 P B (wrap64 (t + (L.length : Int))) 1 4 kj xj 0 ∧ (kj == 0) = false)))
def SpOw2 (P B : List Int) (er : Int) (w : World) (e : Ending) (w' : World) : Prop :=
  ∃ (a : Option Addr) (c : Nat) (b : Option Addr) (d : Nat), e = .returned (.tuple #[.agg #[.slice a P.length c, .slice b B.length d], .int .i64 er]) ∧ w'.ownsRow w.heap.size 3 1 (.slice a P.length c) P.length (iV P) ∧ w'.ownsRow w.heap.size 5 1 (.slice b B.length d) B.length (bV B) ∧ Below w.heap.size w w'
def SpOw3 (P B : List Int) (k x er : Int) (w : World) (e : Ending) (w' : World) : Prop :=
  ∃ (a : Option Addr) (c : Nat) (b : Option Addr) (d : Nat), e = .returned (.tuple #[.agg #[.slice a P.length c, .slice b B.length d], .agg #[.int .i64 k, .int .i64 x], .int .i64 er]) ∧ w'.ownsRow w.heap.size 3 1 (.slice a P.length c) P.length (iV P) ∧ w'.ownsRow w.heap.size 5 1 (.slice b B.length d) B.length (bV B) ∧ Below w.heap.size w w'
def PrO (P B : List Int) (n q : Int) (Pp Bp : List Int) (er : Int) : Prop := ∀ (a : Option Addr) (c : Nat) (a2 : Option Addr) (c2 : Nat) (w : World), SpIn w a c a2 c2 P B → Calls Try.prog 16 #[.agg #[.slice a P.length c, .slice a2 B.length c2], .int .i64 n, .int .i64 q] w (SpOw2 Pp Bp er w)
def SeO (P B : List Int) (q : Int) (Pp Bp : List Int) (er : Int) : Prop := ∀ (a : Option Addr) (c : Nat) (a2 : Option Addr) (c2 : Nat) (w : World), SpIn w a c a2 c2 P B → Calls Try.prog 17 #[.agg #[.slice a P.length c, .slice a2 B.length c2], .int .i64 q] w (SpOw2 Pp Bp er w)
def StO (P B : List Int) (u s : Int) (g : Bool) (v : Int) (Pp Bp : List Int) (k x er : Int) : Prop := ∀ (a : Option Addr) (c : Nat) (a2 : Option Addr) (c2 : Nat) (w : World), SpIn w a c a2 c2 P B → Calls Try.prog 34 #[.agg #[.slice a P.length c, .slice a2 B.length c2], .int .i64 u, .agg #[.int .i64 s, .bool g], .int .i64 v] w (SpOw3 Pp Bp k x er w)
/-- Which space goes on: the answered one, or the one before. -/
def Goes (ok : Bool) (P B Pp Bp P1 B1 : List Int) : Prop := (ok = true ∧ Pp = P1 ∧ Bp = B1) ∨ (ok = false ∧ P = P1 ∧ B = B1)
theorem wpQuiet_abs {P : Program} {ops : Array Oper} {C : World → Prop} {Q : Act → Prop} {l : List Oper} {a : Act}
    (h : ∀ R : List Oper → Act → Prop, (∀ (o : Oper) (rest : List Oper) (a : Act), (∀ K : Act → Prop, (∀ a, R rest a → K a) → if Region.wanted o (yielded ops a.tmps) then o.quiet P a C K else K (a.put o.dst undef)) → R (o :: rest) a) → (∀ a, Q a → R [] a) → R l a) : wpQuiet P ops C Q l a :=
  h (wpQuiet P ops C Q) (fun _ _ _ h => wpQuiet_step h) (fun _ h => wpQuiet_nil h)
theorem spIn_lt {w : World} {b off c : Nat} {a2 : Option Addr} {c2 k : Nat} {P B : List Int} (h : SpIn w (some ⟨b, off, none⟩) c a2 c2 P B) (hk : k < P.length) : b < w.heap.size := by
  rcases h.s1 with h | ⟨b', off', ha, hb, _⟩
  · have : P = [] := by simpa [iV] using h
    subst this; simp at hk
  · cases ha; exact hb
theorem page_str {w : World} {a : Option Addr} {c b off c2 k : Nat} {P B : List Int} (h : SpIn w a c (some ⟨b, off, none⟩) c2 P B) (hc : chk P B.length = true) (hk : k < P.length) (hok : okB B) :
    (convert 23 9 (.slice (some ⟨b, off + 64 * k, none⟩) 64 (c2 - 64 * k))).run Try.prog w = .ok (.string (strB (pg B k))) w := by
  have hl := pg_len hc hk
  obtain ⟨h1, h2⟩ := chk_len4 hc
  have hv := h.v2
  have hs : SlAt w (some ⟨b, off + 64 * k, none⟩) (bV (pg B k)) := by
    rcases h.s2 with h3 | ⟨b', off', ha, hb, hcell⟩
    · have : B = [] := by simpa [bV] using h3
      subst this; simp at h2; omega
    · cases ha
      refine .inr ⟨b, off + 64 * k, rfl, hb, fun j x hx => ?_⟩
      have hj : j < 64 := by
        rcases Nat.lt_or_ge j 64 with h | h
        · exact h
        · rw [List.getElem?_eq_none (by rw [bV_len, hl]; exact h)] at hx; cases hx
      have := hcell (64 * k + j) x (by
        simp only [bV, List.getElem?_map, pg] at hx ⊢
        rw [List.getElem?_take_of_lt hj, List.getElem?_drop] at hx
        rw [Nat.mul_comm 64 k]; exact hx)
      rwa [show off + (64 * k + j) = off + 64 * k + j by omega] at this
  have := str_c (a := some ⟨b, off + 64 * k, none⟩) (c := c2 - 64 * k) (b := pg B k) ⟨by rw [hl]; have := hv.1; omega, by have := hv.2.1; unfold maxLen at *; omega, fun e => by cases e⟩ hs (fun n hn => hok n (List.mem_of_mem_drop (List.mem_of_mem_take hn)))
  rwa [hl] at this
set_option linter.unusedSimpArgs false in
set_option linter.unusedVariables false in
set_option maxHeartbeats 4000000 in
set_option maxRecDepth 100000 in
theorem mc_walk (a : Option Addr) (c : Nat) (a2 : Option Addr) (c2 : Nat) (P B : List Int) (t n q u s v : Int) (gy : Bool) (w : World) (hS : SpIn w a c a2 c2 P B) (L : List Int) (ef : Int) (Pp Bp P1 B1 Pq Bq P2 B2 Pr Br P3 B3 : List Int) (ep kq xq eq er : Int) (bb : Bool) (hokL : okB L) (hck : CkG P B 0) (hF : FeG a c a2 c2 P B t n L ef) (hfw : FetWay a c a2 c2 P B t n L ef) (hPr : PrO P B n q Pp Bp ep) (hG1 : Goes (ep == 0) P B Pp Bp P1 B1) (hSt : StO P1 B1 u s gy v Pq Bq kq xq eq) (hbb : (eq == 0 && kq == 0) = bb) (hG2 : Goes bb P1 B1 Pq Bq P2 B2) (hSe : SeO P2 B2 q Pr Br er) (hG3 : Goes (er == 0) P2 B2 Pr Br P3 B3) (hck3 : CkG P3 B3 0) (hlen3 : P3.length = P.length) (hcP : chk P B.length = true) (hcP3 : chk P3 B3.length = true) (hokB : okB B) (hokB3 : okB B3) (hpg : ∀ k : Nat, P[k]? = some 4 → P3[k]? = some 4 ∧ pg B3 k = pg B k) :
    Calls Try.prog 11 #[.agg #[.slice a P.length c, .slice a2 B.length c2], .agg #[.int .i64 t, .int .i64 n, .int .i64 q], .agg #[.int .i64 u, .int .i64 s, .bool gy, .int .i64 v]] w fun e w' => e = .returned (.bool true) ∧ Below w.heap.size w w' := by
  have hS0 := Lib.hid hS
  clear hS
  have hfw' := Lib.hid hfw
  clear hfw
  have hok' := Lib.hid hokL
  clear hokL
  have hCC := Lib.hid (And.intro hcP (And.intro hcP3 (And.intro hokB (And.intro hokB3 hpg))))
  clear hcP hcP3 hokB hokB3 hpg
  have hln' := Lib.hid hlen3
  clear hlen3
  go_enter Try.func11, Try.ntmps11
  have HK := Kw.start w
  go_wp2_with fail
  replace HK := HK.box (vs := [.slice a P.length c, .slice a2 B.length c2]) (t := 25)
  replace HK := HK.box (vs := [.int .i64 t, .int .i64 n, .int .i64 q]) (t := 44)
  replace HK := HK.box (vs := [.int .i64 u, .int .i64 s, .bool gy, .int .i64 v]) (t := 66)
  simp only [World.size_alloc] at HK
  refine (sane_c _).mono ?_
  rintro e w1 ⟨rfl, hq⟩
  replace HK := HK.below hq
  clear hq
  have z1 := HK.lt 0 rfl
  have y_0 := HK.get 0 0 rfl rfl
  have y_1 := HK.get 0 1 rfl rfl
  have y_2 := HK.get 0 2 rfl rfl
  have y_3 := HK.get 0 3 rfl rfl
  have y_s := HK.lt 0 rfl
  have x_0 := HK.get 1 0 rfl rfl
  have x_1 := HK.get 1 1 rfl rfl
  have x_2 := HK.get 1 2 rfl rfl
  have x_s := HK.lt 1 rfl
  have p_0 := HK.get 2 0 rfl rfl
  have p_1 := HK.get 2 1 rfl rfl
  have p_s := HK.lt 2 rfl
  go_wp2_with fail
  clear y_0 y_1 y_2 y_3 y_s x_0 x_1 x_2 x_s p_0 p_1 p_s
  refine (hck _ _ _ _ _ (hS0.out.below HK.base)).mono ?_
  rintro e w2 ⟨rfl, hq⟩
  replace HK := HK.below hq
  clear hq
  have z2 := HK.lt 0 rfl
  have y_0 := HK.get 0 0 rfl rfl
  have y_1 := HK.get 0 1 rfl rfl
  have y_2 := HK.get 0 2 rfl rfl
  have y_3 := HK.get 0 3 rfl rfl
  have y_s := HK.lt 0 rfl
  have x_0 := HK.get 1 0 rfl rfl
  have x_1 := HK.get 1 1 rfl rfl
  have x_2 := HK.get 1 2 rfl rfl
  have x_s := HK.lt 1 rfl
  have p_0 := HK.get 2 0 rfl rfl
  have p_1 := HK.get 2 1 rfl rfl
  have p_s := HK.lt 2 rfl
  go_wp2_with fail
  clear y_0 y_1 y_2 y_3 y_s x_0 x_1 x_2 x_s p_0 p_1 p_s
  refine (hF _ (hS0.out.below HK.base)).mono ?_
  rintro e w3 ⟨a3, c3, rfl, hv3, hs3, hq⟩
  replace HK := HK.below hq
  clear hq
  have z3 := HK.lt 0 rfl
  have hv3' := Lib.hid hv3
  have hs3' := Lib.hid hs3
  clear hv3 hs3
  have hB3 := Below.refl w3.heap.size w3
  go_upto_if 45 with fail
  go_cut [7] (fun s7 wx => s7 = .bool true ∧ ∃ w20, w20 = wx ∧ Kw [(w.heap.size + 1 + 1, [.int .i64 u, .int .i64 s, .bool gy, .int .i64 v], 66), (w.heap.size + 1, [.int .i64 t, .int .i64 n, .int .i64 q], 44), (w.heap.size, [.slice a P.length c, .slice a2 B.length c2], 25)] w w20)
  case first =>
    as_aux_lemma =>
      have hfw := hfw'.out
      unfold FetWay at hfw
      rcases hfw with he | ⟨he, hPe, hAc, hlen⟩
      · go_wp2_with fail
        go_meet
        exact ⟨rfl, _, rfl, HK⟩
      · subst he
        have y_0 := HK.get 0 0 rfl rfl
        have y_1 := HK.get 0 1 rfl rfl
        have y_2 := HK.get 0 2 rfl rfl
        have y_3 := HK.get 0 3 rfl rfl
        have y_s := HK.lt 0 rfl
        have x_0 := HK.get 1 0 rfl rfl
        have x_1 := HK.get 1 1 rfl rfl
        have x_2 := HK.get 1 2 rfl rfl
        have x_s := HK.lt 1 rfl
        have p_0 := HK.get 2 0 rfl rfl
        have p_1 := HK.get 2 1 rfl rfl
        have p_s := HK.lt 2 rfl
        go_wp2_with fail
        clear y_0 y_1 y_2 y_3 y_s x_0 x_1 x_2 x_s p_0 p_1 p_s
        refine (hPe _ (hS0.out.below HK.base)).mono ?_
        rintro e w4 ⟨a4, c4, rfl, hv4, hs4, hq⟩
        replace HK := HK.below hq
        replace hB3 := Below.tail hB3 hq
        clear hq
        have z51 := HK.lt 0 rfl
        have hB4 := Below.refl w4.heap.size w4
        have hv4' := Lib.hid hv4
        have hs4' := Lib.hid hs4
        clear hv4 hs4
        have y_0 := HK.get 0 0 rfl rfl
        have y_1 := HK.get 0 1 rfl rfl
        have y_2 := HK.get 0 2 rfl rfl
        have y_3 := HK.get 0 3 rfl rfl
        have y_s := HK.lt 0 rfl
        have x_0 := HK.get 1 0 rfl rfl
        have x_1 := HK.get 1 1 rfl rfl
        have x_2 := HK.get 1 2 rfl rfl
        have x_s := HK.lt 1 rfl
        have p_0 := HK.get 2 0 rfl rfl
        have p_1 := HK.get 2 1 rfl rfl
        have p_s := HK.lt 2 rfl
        go_wp2_with fail
        replace HK := HK.box (vs := [.int .i64 0, .int .i64 0]) (t := 34)
        replace hB3 := b_alloc (o := (.cells #[.int .i64 0, .int .i64 0] 34)) hB3
        replace hB4 := b_alloc (o := (.cells #[.int .i64 0, .int .i64 0] 34)) hB4
        clear y_0 y_1 y_2 y_3 y_s x_0 x_1 x_2 x_s p_0 p_1 p_s
        refine (hAc _ (hS0.out.below HK.base)).mono ?_
        rintro e w5 ⟨rfl, hq⟩
        replace HK := HK.below hq
        replace hB3 := Below.tail hB3 hq
        replace hB4 := Below.tail hB4 hq
        clear hq
        have z52 := HK.lt 0 rfl
        have hln : ¬ n < (L.length : Int) := by rcases hlen with h | h <;> omega
        have hW5 := HK.base
        have cv3 := str_c hv3'.out (hs3'.out.below (b_alloc (o := (.cells #[.int .i64 0, .int .i64 0] 34)) hB3)) hok'.out
        have cv4 := str_c hv4'.out (hs4'.out.below (b_alloc (o := (.cells #[.int .i64 0, .int .i64 0] 34)) hB4)) hok'.out
        generalize strB L = SL at *
        have hll : (L.length : Int) ≤ 9223372036854775807 := by have := hv3'.out.max; unfold maxLen at this; omega
        clear hB3 hB4 hW5
        rcases hlen with hlen | ⟨hlt, kj, xj, hAj, hkj⟩
        · subst hlen
          have f_0 := HK.get 0 0 rfl rfl
          have f_1 := HK.get 0 1 rfl rfl
          have f_s := HK.lt 0 rfl
          have y_0 := HK.get 1 0 rfl rfl
          have y_1 := HK.get 1 1 rfl rfl
          have y_2 := HK.get 1 2 rfl rfl
          have y_3 := HK.get 1 3 rfl rfl
          have y_s := HK.lt 1 rfl
          have x_0 := HK.get 2 0 rfl rfl
          have x_1 := HK.get 2 1 rfl rfl
          have x_2 := HK.get 2 2 rfl rfl
          have x_s := HK.lt 2 rfl
          have p_0 := HK.get 3 0 rfl rfl
          have p_1 := HK.get 3 1 rfl rfl
          have p_s := HK.lt 3 rfl
          go_wp2_with fail
          replace HK := HK.box (vs := [.int .i64 0, .int .i64 0]) (t := 34)
          go_meet
          exact ⟨rfl, _, rfl, HK.drop.drop⟩
        · have f_0 := HK.get 0 0 rfl rfl
          have f_1 := HK.get 0 1 rfl rfl
          have f_s := HK.lt 0 rfl
          have y_0 := HK.get 1 0 rfl rfl
          have y_1 := HK.get 1 1 rfl rfl
          have y_2 := HK.get 1 2 rfl rfl
          have y_3 := HK.get 1 3 rfl rfl
          have y_s := HK.lt 1 rfl
          have x_0 := HK.get 2 0 rfl rfl
          have x_1 := HK.get 2 1 rfl rfl
          have x_2 := HK.get 2 2 rfl rfl
          have x_s := HK.lt 2 rfl
          have p_0 := HK.get 3 0 rfl rfl
          have p_1 := HK.get 3 1 rfl rfl
          have p_s := HK.lt 3 rfl
          go_wp2_with fail
          replace HK := HK.box (vs := [.int .i64 0, .int .i64 0]) (t := 34)
          clear f_0 f_1 f_s y_0 y_1 y_2 y_3 y_s x_0 x_1 x_2 x_s p_0 p_1 p_s
          refine (hAj _ (hS0.out.below HK.base)).mono ?_
          rintro e w6 ⟨rfl, hq⟩
          replace HK := HK.below hq
          clear hq
          have z51 := HK.lt 0 rfl
          have y_0 := HK.get 2 0 rfl rfl
          have y_1 := HK.get 2 1 rfl rfl
          have y_2 := HK.get 2 2 rfl rfl
          have y_3 := HK.get 2 3 rfl rfl
          have y_s := HK.lt 2 rfl
          have x_0 := HK.get 3 0 rfl rfl
          have x_1 := HK.get 3 1 rfl rfl
          have x_2 := HK.get 3 2 rfl rfl
          have x_s := HK.lt 3 rfl
          have p_0 := HK.get 4 0 rfl rfl
          have p_1 := HK.get 4 1 rfl rfl
          have p_s := HK.lt 4 rfl
          go_wp2_with fail
          replace HK := HK.box (vs := [.int .i64 kj, .int .i64 xj]) (t := 34)
          go_meet
          exact ⟨rfl, _, rfl, HK.drop.drop.drop⟩
  case rest =>
    as_aux_lemma =>
      obtain ⟨rfl, w20, hw20, HK20⟩ := hcut
      subst hw20
      clear hfw' hv3' hs3' hok' HK hB3
      have HK := HK20
      clear HK20
      have hsz20 := HK.size
      have z20 := HK.lt 0 rfl
      have y_0 := HK.get 0 0 rfl rfl
      have y_1 := HK.get 0 1 rfl rfl
      have y_2 := HK.get 0 2 rfl rfl
      have y_3 := HK.get 0 3 rfl rfl
      have y_s := HK.lt 0 rfl
      have x_0 := HK.get 1 0 rfl rfl
      have x_1 := HK.get 1 1 rfl rfl
      have x_2 := HK.get 1 2 rfl rfl
      have x_s := HK.lt 1 rfl
      have p_0 := HK.get 2 0 rfl rfl
      have p_1 := HK.get 2 1 rfl rfl
      have p_s := HK.lt 2 rfl
      go_wp2_with fail
      replace HK := HK.box (vs := [.slice a P.length c, .slice a2 B.length c2]) (t := 25)
      clear y_0 y_1 y_2 y_3 y_s x_0 x_1 x_2 x_s p_0 p_1 p_s
      have hbl := HK.lt 0 rfl
      skip
      refine (hPr _ _ _ _ _ (hS0.out.below HK.base)).mono ?_
      rintro e w21 ⟨a21, c21, b21, d21, rfl, ho21, hu21, hq⟩
      replace HK := HK.below hq
      clear hq
      have z61 := HK.lt 0 rfl
      have hX21 := spIn_own ho21 hu21
      have hB21 := Below.refl w21.heap.size w21
      go_upto_if 128 with fail
      go_cut [17] (fun s17 wx => s17 = .pointer (some ⟨w20.heap.size, 0, none⟩) ∧ ∃ (w21a : Option Addr) (w21c : Nat) (w21b : Option Addr) (w21d : Nat) (w21 : World), w21 = wx ∧ Kw [(w20.heap.size, [.slice w21a P1.length w21c, .slice w21b B1.length w21d], 25), (w.heap.size + 1 + 1, [.int .i64 u, .int .i64 s, .bool gy, .int .i64 v], 66), (w.heap.size + 1, [.int .i64 t, .int .i64 n, .int .i64 q], 44), (w.heap.size, [.slice a P.length c, .slice a2 B.length c2], 25)] w w21 ∧ Hid (SpIn w21 w21a w21c w21b w21d P1 B1))
      case first =>
        as_aux_lemma =>
          rcases hG1 with ⟨hg, e1, e2⟩ | ⟨hg, e1, e2⟩
          · subst e1 e2
            have t_0 := HK.get 0 0 rfl rfl
            have t_f0 := HK.fz 0 0 rfl
            have t_1 := HK.get 0 1 rfl rfl
            have t_f1 := HK.fz 0 1 rfl
            have t_s := HK.lt 0 rfl
            go_wp2_with fail
            replace HK := HK.put2l (l1 := []) (l2 := [(w.heap.size + 1 + 1, [.int .i64 u, .int .i64 s, .bool gy, .int .i64 v], 66), (w.heap.size + 1, [.int .i64 t, .int .i64 n, .int .i64 q], 44), (w.heap.size, [.slice a P.length c, .slice a2 B.length c2], 25)]) (x := .slice a21 Pp.length c21) (y := .slice b21 Bp.length d21) (by omega) (by
              intro f hf
              simp only [List.cons_append, List.nil_append, List.mem_cons, List.not_mem_nil, or_false] at hf
              rcases hf with rfl | rfl | rfl
              all_goals (dsimp only; omega))
            simp only [List.cons_append, List.nil_append] at HK
            have hXn := spIn_own (ownsRow_setCell_below (a := ⟨w20.heap.size, 1, none⟩) (ownsRow_setCell_below (a := ⟨w20.heap.size, 0, none⟩) ho21 hbl (.slice a21 Pp.length c21)) hbl (.slice b21 Bp.length d21)) (ownsRow_setCell_below (a := ⟨w20.heap.size, 1, none⟩) (ownsRow_setCell_below (a := ⟨w20.heap.size, 0, none⟩) hu21 hbl (.slice a21 Pp.length c21)) hbl (.slice b21 Bp.length d21))
            replace HK := HK.alloc (o := (.cells #[.slice a21 Pp.length c21, .slice b21 Bp.length d21] 25))
            go_meet
            exact ⟨rfl, _, _, _, _, _, rfl, HK, hXn.below (by repeat (first | exact Below.refl _ _ | apply b_alloc))⟩
          · subst e1 e2
            go_wp2_with fail
            replace HK := HK.alloc (o := (.cells #[.slice a21 Pp.length c21, .slice b21 Bp.length d21] 25))
            go_meet
            exact ⟨rfl, _, _, _, _, _, rfl, HK, (hS0.out.below HK.base)⟩
      case rest =>
        as_aux_lemma =>
          obtain ⟨rfl, w21a, w21c, w21b, w21d, w21', hw', HK', hX'⟩ := hcut
          subst hw'
          clear HK hX21 hB21 ho21 hu21 hbl hG1
          have HK := HK'
          clear HK'
          have t_0 := HK.get 0 0 rfl rfl
          have t_f0 := HK.fz 0 0 rfl
          have t_1 := HK.get 0 1 rfl rfl
          have t_f1 := HK.fz 0 1 rfl
          have t_s := HK.lt 0 rfl
          have y_0 := HK.get 1 0 rfl rfl
          have y_1 := HK.get 1 1 rfl rfl
          have y_2 := HK.get 1 2 rfl rfl
          have y_3 := HK.get 1 3 rfl rfl
          have y_s := HK.lt 1 rfl
          have x_0 := HK.get 2 0 rfl rfl
          have x_1 := HK.get 2 1 rfl rfl
          have x_2 := HK.get 2 2 rfl rfl
          have x_s := HK.lt 2 rfl
          have p_0 := HK.get 3 0 rfl rfl
          have p_1 := HK.get 3 1 rfl rfl
          have p_s := HK.lt 3 rfl
          go_wp2_with fail
          clear t_0 t_f0 t_1 t_f1 t_s y_0 y_1 y_2 y_3 y_s x_0 x_1 x_2 x_s p_0 p_1 p_s
          have hbl := HK.lt 0 rfl
          skip
          refine (hSt _ _ _ _ _ hX'.out).mono ?_
          rintro e w22 ⟨a22, c22, b22, d22, rfl, ho22, hu22, hq⟩
          replace HK := HK.below hq
          have hqq := hq
          clear hq
          have z102 := HK.lt 0 rfl
          have hX22 := spIn_own ho22 hu22
          have hB22 := Below.refl w22.heap.size w22
          have hbt := hbl
          have hXt := hX'.out.below (Below.refl w21'.heap.size w21')
          have hX0 := Lib.hid (hX'.out.below hqq)
          have hoE := Lib.hid ho22
          have huE := Lib.hid hu22
          have hbb' := Lib.hid hbb
          clear hXt hbb ho22 hu22 hX22 hB22
          go_upto_region 19 with fail
          go_cut [20, 148] (fun s20 s148 wx => s20 = .pointer (some ⟨w22.heap.size, 0, none⟩) ∧ s148 = .bool bb ∧ ∃ (w30 : World), w30 = wx ∧ Kw [(w22.heap.size + 1, [.int .i64 kq, .int .i64 xq], 34), (w22.heap.size, [.slice a22 Pq.length c22, .slice b22 Bq.length d22], 25), (w20.heap.size, [.slice w21a P1.length w21c, .slice w21b B1.length w21d], 25), (w.heap.size + 1 + 1, [.int .i64 u, .int .i64 s, .bool gy, .int .i64 v], 66), (w.heap.size + 1, [.int .i64 t, .int .i64 n, .int .i64 q], 44), (w.heap.size, [.slice a P.length c, .slice a2 B.length c2], 25)] w w30 ∧ Hid (SpIn w30 w21a w21c w21b w21d P1 B1) ∧ Hid (w30.ownsRow w21'.heap.size 3 1 (.slice a22 Pq.length c22) Pq.length (iV Pq)) ∧ Hid (w30.ownsRow w21'.heap.size 5 1 (.slice b22 Bq.length d22) Bq.length (bV Bq)))
          case first =>
            as_aux_lemma =>
              have hbx := hbb'.out
              replace HK := HK.box (vs := [.slice a22 Pq.length c22, .slice b22 Bq.length d22]) (t := 25)
              replace HK := HK.box (vs := [.int .i64 kq, .int .i64 xq]) (t := 34)
              simp only [World.size_alloc] at HK
              have hfin := HK
              clear HK
              by_cases he : (eq == 0) = true
              · by_cases hk : (kq == 0) = true
                · rw [he, hk] at hbx
                  subst hbx
                  go_wp2_with fail
                  go_meet
                  exact ⟨rfl, rfl, _, rfl, hfin, hX0.out.below (b_alloc (b_alloc (Below.refl _ _))), (hoE.out.alloc _).alloc _, (huE.out.alloc _).alloc _⟩
                · have hk : (kq == 0) = false := by simpa using hk
                  rw [he, hk] at hbx
                  subst hbx
                  go_wp2_with fail
                  go_meet
                  exact ⟨rfl, rfl, _, rfl, hfin, hX0.out.below (b_alloc (b_alloc (Below.refl _ _))), (hoE.out.alloc _).alloc _, (huE.out.alloc _).alloc _⟩
              · have he : (eq == 0) = false := by simpa using he
                rw [he] at hbx
                subst hbx
                go_wp2_with fail
                go_meet
                exact ⟨rfl, rfl, _, rfl, hfin, hX0.out.below (b_alloc (b_alloc (Below.refl _ _))), (hoE.out.alloc _).alloc _, (huE.out.alloc _).alloc _⟩
          case rest =>
            as_aux_lemma =>
              obtain ⟨rfl, rfl, w30, hw30, HK22, hXE, hoF, huF⟩ := hcut
              subst hw30
              clear HK hX0 hoE huE hbb' hqq hX'
              have HK := HK22
              clear HK22
              go_upto_if 148 with fail
              go_cut [17] (fun s17 wx => s17 = .pointer (some ⟨w20.heap.size, 0, none⟩) ∧ ∃ (w23a : Option Addr) (w23c : Nat) (w23b : Option Addr) (w23d : Nat) (w23 : World), w23 = wx ∧ Kw [(w20.heap.size, [.slice w23a P2.length w23c, .slice w23b B2.length w23d], 25), (w.heap.size + 1 + 1, [.int .i64 u, .int .i64 s, .bool gy, .int .i64 v], 66), (w.heap.size + 1, [.int .i64 t, .int .i64 n, .int .i64 q], 44), (w.heap.size, [.slice a P.length c, .slice a2 B.length c2], 25)] w w23 ∧ Hid (SpIn w23 w23a w23c w23b w23d P2 B2))
              case first =>
                as_aux_lemma =>
                  rcases hG2 with ⟨hg, e1, e2⟩ | ⟨hg, e1, e2⟩
                  · subst hg e1 e2
                    have c_0 := HK.get 1 0 rfl rfl
                    have c_1 := HK.get 1 1 rfl rfl
                    have c_s := HK.lt 1 rfl
                    have t_0 := HK.get 2 0 rfl rfl
                    have t_f0 := HK.fz 2 0 rfl
                    have t_1 := HK.get 2 1 rfl rfl
                    have t_f1 := HK.fz 2 1 rfl
                    have t_s := HK.lt 2 rfl
                    go_wp2_with fail
                    have hsz22 := HK.size
                    replace HK := HK.put2l (l1 := [(w22.heap.size + 1, [.int .i64 kq, .int .i64 xq], 34), (w22.heap.size, [.slice a22 Pq.length c22, .slice b22 Bq.length d22], 25)]) (l2 := [(w.heap.size + 1 + 1, [.int .i64 u, .int .i64 s, .bool gy, .int .i64 v], 66), (w.heap.size + 1, [.int .i64 t, .int .i64 n, .int .i64 q], 44), (w.heap.size, [.slice a P.length c, .slice a2 B.length c2], 25)]) (x := .slice a22 Pq.length c22) (y := .slice b22 Bq.length d22) (by omega) (by
                      intro f hf
                      simp only [List.cons_append, List.nil_append, List.mem_cons, List.not_mem_nil, or_false] at hf
                      rcases hf with rfl | rfl | rfl | rfl | rfl
                      all_goals (dsimp only; omega))
                    simp only [List.cons_append, List.nil_append] at HK
                    have hXn := spIn_own (ownsRow_setCell_below (a := ⟨w20.heap.size, 1, none⟩) (ownsRow_setCell_below (a := ⟨w20.heap.size, 0, none⟩) hoF.out hbt (.slice a22 Pq.length c22)) hbt (.slice b22 Bq.length d22)) (ownsRow_setCell_below (a := ⟨w20.heap.size, 1, none⟩) (ownsRow_setCell_below (a := ⟨w20.heap.size, 0, none⟩) huF.out hbt (.slice a22 Pq.length c22)) hbt (.slice b22 Bq.length d22))
                    go_meet
                    exact ⟨rfl, _, _, _, _, _, rfl, HK.drop.drop, hXn⟩
                  · subst hg e1 e2
                    go_wp2_with fail
                    go_meet
                    exact ⟨rfl, _, _, _, _, _, rfl, HK.drop.drop, hXE.out⟩
              case rest =>
                as_aux_lemma =>
                  obtain ⟨rfl, w23a, w23c, w23b, w23d, w23', hw', HK', hX'⟩ := hcut
                  subst hw'
                  clear HK hXE hoF huF hbt hG2
                  have HK := HK'
                  clear HK'
                  have hsz20 := HK.size
                  have hXs := hX'
                  have t_0 := HK.get 0 0 rfl rfl
                  have t_f0 := HK.fz 0 0 rfl
                  have t_1 := HK.get 0 1 rfl rfl
                  have t_f1 := HK.fz 0 1 rfl
                  have t_s := HK.lt 0 rfl
                  have y_0 := HK.get 1 0 rfl rfl
                  have y_1 := HK.get 1 1 rfl rfl
                  have y_2 := HK.get 1 2 rfl rfl
                  have y_3 := HK.get 1 3 rfl rfl
                  have y_s := HK.lt 1 rfl
                  have x_0 := HK.get 2 0 rfl rfl
                  have x_1 := HK.get 2 1 rfl rfl
                  have x_2 := HK.get 2 2 rfl rfl
                  have x_s := HK.lt 2 rfl
                  have p_0 := HK.get 3 0 rfl rfl
                  have p_1 := HK.get 3 1 rfl rfl
                  have p_s := HK.lt 3 rfl
                  go_wp2_with fail
                  clear t_0 t_f0 t_1 t_f1 t_s y_0 y_1 y_2 y_3 y_s x_0 x_1 x_2 x_s p_0 p_1 p_s
                  have hbl := HK.lt 0 rfl
                  skip
                  refine (hSe _ _ _ _ _ hXs.out).mono ?_
                  rintro e w51 ⟨a51, c51, b51, d51, rfl, ho51, hu51, hq⟩
                  replace HK := HK.below hq
                  have hqq := hq
                  clear hq
                  have z261 := HK.lt 0 rfl
                  have hX51 := spIn_own ho51 hu51
                  have hB51 := Below.refl w51.heap.size w51
                  go_upto_if 158 with fail
                  go_cut [17] (fun s17 wx => s17 = .pointer (some ⟨w20.heap.size, 0, none⟩) ∧ ∃ (w24a : Option Addr) (w24c : Nat) (w24b : Option Addr) (w24d : Nat) (w24 : World), w24 = wx ∧ Kw [(w20.heap.size, [.slice w24a P3.length w24c, .slice w24b B3.length w24d], 25), (w.heap.size + 1 + 1, [.int .i64 u, .int .i64 s, .bool gy, .int .i64 v], 66), (w.heap.size + 1, [.int .i64 t, .int .i64 n, .int .i64 q], 44), (w.heap.size, [.slice a P.length c, .slice a2 B.length c2], 25)] w w24 ∧ Hid (SpIn w24 w24a w24c w24b w24d P3 B3))
                  case first =>
                    as_aux_lemma =>
                      rcases hG3 with ⟨hg, e1, e2⟩ | ⟨hg, e1, e2⟩
                      · subst e1 e2
                        have t_0 := HK.get 0 0 rfl rfl
                        have t_f0 := HK.fz 0 0 rfl
                        have t_1 := HK.get 0 1 rfl rfl
                        have t_f1 := HK.fz 0 1 rfl
                        have t_s := HK.lt 0 rfl
                        go_wp2_with fail
                        replace HK := HK.put2l (l1 := []) (l2 := [(w.heap.size + 1 + 1, [.int .i64 u, .int .i64 s, .bool gy, .int .i64 v], 66), (w.heap.size + 1, [.int .i64 t, .int .i64 n, .int .i64 q], 44), (w.heap.size, [.slice a P.length c, .slice a2 B.length c2], 25)]) (x := .slice a51 Pr.length c51) (y := .slice b51 Br.length d51) (by omega) (by
                          intro f hf
                          simp only [List.cons_append, List.nil_append, List.mem_cons, List.not_mem_nil, or_false] at hf
                          rcases hf with rfl | rfl | rfl
                          all_goals (dsimp only; omega))
                        simp only [List.cons_append, List.nil_append] at HK
                        have hXn := spIn_own (ownsRow_setCell_below (a := ⟨w20.heap.size, 1, none⟩) (ownsRow_setCell_below (a := ⟨w20.heap.size, 0, none⟩) ho51 hbl (.slice a51 Pr.length c51)) hbl (.slice b51 Br.length d51)) (ownsRow_setCell_below (a := ⟨w20.heap.size, 1, none⟩) (ownsRow_setCell_below (a := ⟨w20.heap.size, 0, none⟩) hu51 hbl (.slice a51 Pr.length c51)) hbl (.slice b51 Br.length d51))
                        replace HK := HK.alloc (o := (.cells #[.slice a51 Pr.length c51, .slice b51 Br.length d51] 25))
                        go_meet
                        exact ⟨rfl, _, _, _, _, _, rfl, HK, hXn.below (by repeat (first | exact Below.refl _ _ | apply b_alloc))⟩
                      · subst e1 e2
                        go_wp2_with fail
                        replace HK := HK.alloc (o := (.cells #[.slice a51 Pr.length c51, .slice b51 Br.length d51] 25))
                        go_meet
                        exact ⟨rfl, _, _, _, _, _, rfl, HK, hXs.out.below (b_alloc hqq)⟩
                  case rest =>
                    as_aux_lemma =>
                      obtain ⟨rfl, w24a, w24c, w24b, w24d, w24', hw', HK', hX'⟩ := hcut
                      subst hw'
                      clear HK hX51 hB51 ho51 hu51 hbl hG3
                      have HK := HK'
                      clear HK'
                      clear hqq hXs
                      have hXf := hX'
                      clear hX'
                      have t_0 := HK.get 0 0 rfl rfl
                      have t_f0 := HK.fz 0 0 rfl
                      have t_1 := HK.get 0 1 rfl rfl
                      have t_f1 := HK.fz 0 1 rfl
                      have t_s := HK.lt 0 rfl
                      go_wp2_with fail
                      clear t_0 t_f0 t_1 t_f1 t_s
                      refine (hck3 _ _ _ _ _ hXf.out).mono ?_
                      rintro e w52 ⟨rfl, hq⟩
                      replace HK := HK.below hq
                      have hqq := hq
                      clear hq
                      have z302 := HK.lt 0 rfl
                      have t_0 := HK.get 0 0 rfl rfl
                      have t_f0 := HK.fz 0 0 rfl
                      have t_1 := HK.get 0 1 rfl rfl
                      have t_f1 := HK.fz 0 1 rfl
                      have t_s := HK.lt 0 rfl
                      have p_0 := HK.get 3 0 rfl rfl
                      have p_1 := HK.get 3 1 rfl rfl
                      have p_s := HK.lt 3 rfl
                      have hl1 : ((P3.length : Int) != (P.length : Int)) = false := by rw [hln'.out]; simp
                      have hl2 : (P3.length != P.length) = false := by rw [hln'.out]; simp
                      go_wp2_with fail
                      clear t_0 t_1 t_f0 t_f1 t_s p_0 p_1 p_s hl1 hl2
                      have hXl := Lib.hid (hXf.out.below hqq)
                      clear hXf hqq
                      go_loopw [25] (fun i wr => ∃ (k : Nat) (w5 : World), w5 = wr ∧ k ≤ P.length ∧ i = .int .i64 k ∧ Kw [(w20.heap.size, [.slice w24a P3.length w24c, .slice w24b B3.length w24d], 25), (w.heap.size + 1 + 1, [.int .i64 u, .int .i64 s, .bool gy, .int .i64 v], 66), (w.heap.size + 1, [.int .i64 t, .int .i64 n, .int .i64 q], 44), (w.heap.size, [.slice a P.length c, .slice a2 B.length c2], 25)] w w5 ∧ Hid (SpIn w5 w24a w24c w24b w24d P3 B3)) (fun i _ => P.length - (intOf i).toNat)
                      case atStart => exact ⟨0, _, rfl, Nat.zero_le _, rfl, HK, hXl.out⟩
                      case round =>
                        clear HK hXl
                        obtain ⟨k, w5, hw, hk, rfl, HK, hXl⟩ := hrel
                        subst hw
                        have t_0 := HK.get 0 0 rfl rfl
                        have t_1 := HK.get 0 1 rfl rfl
                        have p_0 := HK.get 3 0 rfl rfl
                        have p_1 := HK.get 3 1 rfl rfl
                        have t_s := HK.lt 0 rfl
                        have p_s := HK.lt 3 rfl
                        have hK := HK.base
                        by_cases hlt : k < P.length
                        · have hx : P[k]? = some P[k] := by simp [hlt]
                          have hSk := Lib.hid (hS0.out.below HK.base)
                          obtain ⟨b, off, rfl⟩ := hS0.out.shape hx
                          have hcell := hSk.out.cell hx
                          have hbl := spIn_lt hSk.out hlt
                          have k0 : (0 : Int) ≤ (k : Int) := Int.natCast_nonneg _
                          have k1 : (k : Int) < (P.length : Int) := by omega
                          have kml : (P.length : Int) ≤ 32 := by have := (chk_len4 hCC.out.1).1; omega
                          by_cases h4 : P[k] = 4
                          · as_aux_lemma =>
                              have h4o := Lib.hid (hCC.out.2.2.2.2 k (by rw [hx, h4]))
                              have hk3 : k < P3.length := by rw [hln'.out]; exact hlt
                              obtain ⟨b3, off3, rfl⟩ := hXl.out.shape h4o.out.1
                              have hcell3 := hXl.out.cell h4o.out.1
                              have hbl3 := spIn_lt hXl.out hk3
                              obtain ⟨b4, off4, rfl, hb4, _⟩ := hSk.out.shape2 (m := 64 * k) (by have := (chk_len4 hCC.out.1).2; omega)
                              obtain ⟨b5, off5, rfl, hb5, _⟩ := hXl.out.shape2 (m := 64 * k) (by have := (chk_len4 hCC.out.2.1).2; omega)
                              rw [h4] at hcell
                              have hc1 := fun q => page_str (hSk.out.below (below_reg w5 q)) hCC.out.1 hlt hCC.out.2.2.1
                              have hc2 := fun q => page_str (hXl.out.below (below_reg w5 q)) hCC.out.2.1 hk3 hCC.out.2.2.2.1
                              rw [h4o.out.2] at hc2
                              have hl4 := hSk.out.v2.1
                              have hl5 := hXl.out.v2.1
                              have hm4 := hSk.out.v2.2.1
                              have hm5 := hXl.out.v2.2.1
                              unfold maxLen at hm4 hm5
                              have hB4 := (chk_len4 hCC.out.1).2
                              have hB5 := (chk_len4 hCC.out.2.1).2
                              have hg4 : 64 * k + 64 ≤ w24d := by omega
                              have hg5 : 64 * k + 64 ≤ c2 := by omega
                              have hi4 : (64 * (k : Int) + 64) ≤ (w24d : Int) := by omega
                              have hi5 : (64 * (k : Int) + 64) ≤ (c2 : Int) := by omega
                              clear hB4 hB5 hl4 hl5 hx
                              have hw1 : IntKind.i64.wrap (64 * (k : Int)) = 64 * (k : Int) := IntWalk.i64_in _ (by omega)
                              have hw2 : IntKind.i64.wrap (64 * (k : Int) + 64) = 64 * (k : Int) + 64 := IntWalk.i64_in _ (by omega)
                              have hw3 : (64 * (k : Int)).toNat = 64 * k := by omega
                              have hw4 : (64 * (k : Int) + 64).toNat = 64 * k + 64 := by omega
                              have hw5 : 0 ≤ 64 * (k : Int) := by omega
                              have hw6 : 64 * (k : Int) ≤ 64 * (k : Int) + 64 := by omega
                              have hw7 : 64 * k + 64 - 64 * k = 64 := by omega
                              have hw8 : (c2 = 64 * k) = False := by simp; omega
                              have hw9 : (w24d = 64 * k) = False := by simp; omega
                              generalize strB (pg B k) = PG at *
                              have HKh := Lib.hid HK
                              clear HK
                              go_wp2_with fail
                              refine wp_quiet (by kernel_rfl) (by kernel_rfl) ?_
                              repeat (quiet_step (fail))
                              refine wpQuiet_nil ?_
                              intro _ hw'; obtain ⟨pp, rfl⟩ := hw'
                              clear hw1 hw2 hw3 hw4 hw5 hw6 hw7 hw8 hw9 hc1 hc2
                              go_wp2
                              go_roundw
                              case rel => exact ⟨k + 1, _, rfl, by omega, by go_num, HKh.out.reg, hXl.out.below (below_reg _ _)⟩
                              case measure => simp [intOf]; omega
                          · as_aux_lemma =>
                              have hx4 : (P[k] == 4) = false := by simpa using h4
                              generalize P[k] = xk at *
                              clear hx h4
                              have HKh := Lib.hid HK
                              clear HK
                              go_wp2_with fail
                              refine wp_quiet (by kernel_rfl) (by kernel_rfl) ?_
                              refine wpQuiet_abs (fun R hR hN => ?_)
                              repeat (refine hR _ _ _ (fun K hK => ?_); go_simp; refine hK _ ?_; clear hK K)
                              refine hN _ ?_
                              intro _ hw'; obtain ⟨pp, rfl⟩ := hw'
                              go_wp2
                              go_roundw
                              case rel => exact ⟨k + 1, _, rfl, by omega, by go_num, HKh.out.reg, hXl.out.below (below_reg _ _)⟩
                              case measure => simp [intOf]; omega
                        · clear HK
                          go_wp2
                          go_ret
                          exact ⟨rfl, hK⟩
set_option maxHeartbeats 4000000 in
set_option maxRecDepth 100000 in
theorem mc_n (a : Option Addr) (c : Nat) (a2 : Option Addr) (c2 : Nat) (P B : List Int) (t n q u s v : Int) (gy : Bool) (w : World) (hS : SpIn w a c a2 c2 P B) (hck : CkG P B 30) :
    Calls Try.prog 11 #[.agg #[.slice a P.length c, .slice a2 B.length c2], .agg #[.int .i64 t, .int .i64 n, .int .i64 q], .agg #[.int .i64 u, .int .i64 s, .bool gy, .int .i64 v]] w fun e w' => e = .returned (.bool true) ∧ Below w.heap.size w w' := by
  have hS0 := Lib.hid hS
  clear hS
  go_enter Try.func11, Try.ntmps11
  have HK := Kw.start w
  go_wp2_with fail
  replace HK := HK.box (vs := [.slice a P.length c, .slice a2 B.length c2]) (t := 25)
  replace HK := HK.box (vs := [.int .i64 t, .int .i64 n, .int .i64 q]) (t := 44)
  replace HK := HK.box (vs := [.int .i64 u, .int .i64 s, .bool gy, .int .i64 v]) (t := 66)
  simp only [World.size_alloc] at HK
  refine (sane_c _).mono ?_
  rintro e w1 ⟨rfl, hq⟩
  replace HK := HK.below hq
  clear hq
  have z1 := HK.lt 0 rfl
  have y_0 := HK.get 0 0 rfl rfl
  have y_1 := HK.get 0 1 rfl rfl
  have y_2 := HK.get 0 2 rfl rfl
  have y_3 := HK.get 0 3 rfl rfl
  have y_s := HK.lt 0 rfl
  have x_0 := HK.get 1 0 rfl rfl
  have x_1 := HK.get 1 1 rfl rfl
  have x_2 := HK.get 1 2 rfl rfl
  have x_s := HK.lt 1 rfl
  have p_0 := HK.get 2 0 rfl rfl
  have p_1 := HK.get 2 1 rfl rfl
  have p_s := HK.lt 2 rfl
  go_wp2_with fail
  clear y_0 y_1 y_2 y_3 y_s x_0 x_1 x_2 x_s p_0 p_1 p_s
  refine (hck _ _ _ _ _ (hS0.out.below HK.base)).mono ?_
  rintro e w2 ⟨rfl, hq⟩
  replace HK := HK.below hq
  clear hq
  have z2 := HK.lt 0 rfl
  have hK := HK.base
  clear HK
  go_wp2
  go_ret
  exact ⟨rfl, hK⟩
end Go.Proofs.Ytdbcbmdekdfdoaa
