/- WHAT IS PROVED: taplinelaw03.MemSpaces answers true, for every two spaces and two numbers; how a pair of numbers is read. CONDITIONS: the arguments read as lists of numbers. -/
import Derived.Test.YtdbcbmdekdfdoaaMs
import Derived.Test.YtdbcbmdekdfdoaaMb
import Derived.Test.YtdbcbmdekdfdoaaOp
namespace Go.Proofs.Ytdbcbmdekdfdoaa
open Go Go.ChangeShapes Go.WideShapes Go.ChangeAt Go.RowKit Go.Joins Go.QrBits Go.QrMem

theorem cells26 : Try.prog.cellsOf 26 = 2 := by kernel_rfl
set_option maxRecDepth 100000 in
theorem open_arr2 {H : Type} {enc : TypeId × Value → H} {W : World} {base : Nat} {sp : Nat → Bool} {held : Bool} {v : Value} {d : DataW H} {p : List MemPlace} (hv : Value.okWide Try.prog W .any base 26 v) (h : DataW.Trod enc Try.prog W 0 sp held 26 v d p) :
    ∃ x y, v = .agg #[.int .i64 x, .int .i64 y] ∧ I64 x ∧ I64 y := by
  obtain ⟨cs, rfl, hsz, _⟩ : ∃ cs, v = .agg cs ∧ cs.size = Try.prog.cellsOf 26 ∧ Row.okWide Try.prog W .any base 26 cs := by
    simpa [Value.okWide, Try.underlying26] using hv
  obtain ⟨c0, c1, rfl⟩ := array2 (hsz.trans cells26)
  obtain ⟨fuel, hf⟩ := h
  obtain ⟨xs, m, _, hx, _, hl, hel⟩ := DataW.trod_array Try.underlying26 hf
  match xs, hl with
  | [y0, y1], _ =>
    obtain ⟨a0, e0, rfl, w0⟩ := DataW.trod_int Try.underlying3 (x := y0) (by simpa [Value.cells, cells3] using hel 0 (by omega))
    obtain ⟨a1, e1, rfl, w1⟩ := DataW.trod_int Try.underlying3 (x := y1) (by simpa [Value.cells, cells3] using hel 1 (by omega))
    simp at e0 e1
    subst e0 e1
    exact ⟨a0, a1, rfl, wf_I64 w0, wf_I64 w1⟩

theorem okB_nil' : okB [] := fun n h => by cases h
theorem so2_no {er : Int} {w w' : World} {e : Ending} (h : e = .returned (.tuple #[.agg #[.slice none 0 0, .slice none 0 0], .int .i64 er]) ∧ Below w.heap.size w w') : SpOut2 [] [] er w e w' := ⟨none, 0, none, 0, h.1, spIn_nil _, h.2⟩
theorem so2_y {P B : List Int} {w w' : World} {e : Ending} (h : SpPost P B w e w') : SpOut2 P B 0 w e w' := by
  obtain ⟨v, he, ⟨a, c, a2, c2, rfl, h1, h2⟩, hb⟩ := h
  exact ⟨a, c, a2, c2, he, spIn_own h1 h2, hb⟩
theorem zL_ok (n : Nat) : okB (zL n) := fun x hx => by simp [zL] at hx; omega
theorem new_both (l : Int) : ∃ P B er, okB B ∧ NeG l P B er ∧ RNeG l P B er := by
  by_cases h : l < 0 ∨ 32 < l
  · exact ⟨[], [], 1, okB_nil', fun w => (new_n l w h).mono fun _ _ h => so2_no h, fun w => (rnew_n l w h).mono fun _ _ h => rsp_no h⟩
  · obtain ⟨n, rfl⟩ : ∃ k : Nat, l = k := ⟨l.toNat, by omega⟩
    exact ⟨zL n, zL (n * 64), 0, zL_ok _, fun w => (new_y n w (by omega)).mono fun _ _ h => so2_y h, fun w => rnew_y n w (by omega)⟩
variable (a : Option Addr) (c : Nat) (a2 : Option Addr) (c2 : Nat) (P B : List Int)
theorem prot_both (p q : Int) (hok : okB B) : ∃ P' B' er, okB B' ∧ PrG a c a2 c2 P B p q P' B' er ∧ RPrG a c a2 c2 P B p q P' B' er := by
  cases hc : chk P B.length with
  | false => exact ⟨[], [], 30, okB_nil', fun w h => (protect_n a c a2 c2 P B p q w h hc).mono fun _ _ h => so2_no h, fun w h => (rprot_n a c a2 c2 P B p q w h hc).mono fun _ _ h => rsp_no h⟩
  | true =>
  by_cases h0 : p < 0
  · exact ⟨[], [], 31, okB_nil', fun w h => (protect_p a c a2 c2 P B p q w h hc (by omega)).mono fun _ _ h => so2_no h, fun w h => (rprot_lo a c a2 c2 P B p q w h hc h0).mono fun _ _ h => rsp_no h⟩
  by_cases h1 : (P.length : Int) ≤ p
  · exact ⟨[], [], 31, okB_nil', fun w h => (protect_p a c a2 c2 P B p q w h hc (by omega)).mono fun _ _ h => so2_no h, fun w h => (rprot_hi a c a2 c2 P B p q w h hc h1).mono fun _ _ h => rsp_no h⟩
  obtain ⟨k, rfl⟩ : ∃ k : Nat, p = k := ⟨p.toNat, by omega⟩
  have hk : k < P.length := by omega
  obtain ⟨x, hx⟩ : ∃ x, P[k]? = some x := ⟨P[k], by simp [hk]⟩
  by_cases h4 : x = 4
  · subst h4
    exact ⟨[], [], 31, okB_nil', fun w h => (protect_4 a c a2 c2 P B k q w h hc hk hx).mono fun _ _ h => so2_no h, fun w h => (rprot_4 a c a2 c2 P B k q w h hc hk hx).mono fun _ _ h => rsp_no h⟩
  have h4' : (x == 4) = false := beq_eq_false_iff_ne.2 h4
  cases hd : dB q with
  | false =>
    cases hq : pB q with
    | false => exact ⟨[], [], 31, okB_nil', fun w h => (protect_d a c a2 c2 P B k x q w h hc hk hx h4' hd).mono fun _ _ h => so2_no h, fun w h => (rprot_d1 a c a2 c2 P B k x q w h hc hk hx h4' hq).mono fun _ _ h => rsp_no h⟩
    | true =>
      have h5 : q = 4 := by
        rcases pB_cases hq with rfl | rfl | rfl | rfl
        · exact absurd hd (by decide)
        · exact absurd hd (by decide)
        · exact absurd hd (by decide)
        · rfl
      subst h5
      exact ⟨[], [], 31, okB_nil', fun w h => (protect_d a c a2 c2 P B k x 4 w h hc hk hx h4' hd).mono fun _ _ h => so2_no h, fun w h => (rprot_d2 a c a2 c2 P B k x w h hc hk hx h4' hq).mono fun _ _ h => rsp_no h⟩
  | true =>
    have hq : pB q = true := by simp [pB, hd]
    have hq4 : (q == 4) = false := by
      refine beq_eq_false_iff_ne.2 fun e => ?_
      subst e; revert hd; decide
    exact ⟨P.set k q, B, 0, hok, fun w h => (protect_y a c a2 c2 P B k x q w h hc hk hx h4' hd).mono fun _ _ h => so2_y h, fun w h => rprot_y a c a2 c2 P B k x q w h hc hk hx h4' hq4 hq⟩
theorem seal_both (p : Int) (hok : okB B) : ∃ P' B' er, okB B' ∧ SeG a c a2 c2 P B p P' B' er ∧ RSeG a c a2 c2 P B p P' B' er := by
  cases hc : chk P B.length with
  | false => exact ⟨[], [], 30, okB_nil', fun w h => (seal_n a c a2 c2 P B p w h hc).mono fun _ _ h => so2_no h, fun w h => (rseal_n a c a2 c2 P B p w h hc).mono fun _ _ h => rsp_no h⟩
  | true =>
  by_cases h0 : p < 0
  · exact ⟨[], [], 31, okB_nil', fun w h => (seal_p a c a2 c2 P B p w h hc (by omega)).mono fun _ _ h => so2_no h, fun w h => (rseal_lo a c a2 c2 P B p w h hc h0).mono fun _ _ h => rsp_no h⟩
  by_cases h1 : (P.length : Int) ≤ p
  · exact ⟨[], [], 31, okB_nil', fun w h => (seal_p a c a2 c2 P B p w h hc (by omega)).mono fun _ _ h => so2_no h, fun w h => (rseal_hi a c a2 c2 P B p w h hc h1).mono fun _ _ h => rsp_no h⟩
  obtain ⟨k, rfl⟩ : ∃ k : Nat, p = k := ⟨p.toNat, by omega⟩
  have hk : k < P.length := by omega
  obtain ⟨x, hx⟩ : ∃ x, P[k]? = some x := ⟨P[k], by simp [hk]⟩
  exact ⟨P.set k 4, B, 0, hok, fun w h => (seal_y a c a2 c2 P B k w h hc hk).mono fun _ _ h => so2_y h, fun w h => rseal_y a c a2 c2 P B k x w h hc hk hx⟩
theorem rsmg_y {P B : List Int} (hok : okB B) : RsmG P B P B true := fun a c a2 c2 a' c' a2' c2' w h h' => by
  have := rsame_c a c a2 c2 P B a' c' a2' c2' P B w h h' hok hok
  simpa using this
theorem smg_y {P B : List Int} (hok : okB B) : SmG P B P B true := fun a c a2 c2 a' c' a2' c2' w h h' => by
  have := same_c a c a2 c2 P B a' c' a2' c2' P B w h h' hok hok
  simpa using this
theorem memSpaces_walk (oa : Option Addr) (oc : Nat) (oa2 : Option Addr) (oc2 : Nat) (PO BO : List Int) (l0 l1 : Int) (w : World) (hS : SpIn w a c a2 c2 P B) (hok : okB B) (hO : SpIn w oa oc oa2 oc2 PO BO) (hokO : okB BO) :
    Calls Try.prog 3 #[.agg #[.slice a P.length c, .slice a2 B.length c2], .agg #[.slice oa PO.length oc, .slice oa2 BO.length oc2], .agg #[.int .i64 l0, .int .i64 l1]] w fun e w' => e = .returned (.bool true) ∧ Below w.heap.size w w' := by
  obtain ⟨P1, B1, e1, ok1, hN, hRN⟩ := new_both l0
  obtain ⟨P2, B2, e2, ok2, hP, hRP⟩ := prot_both a c a2 c2 P B l0 l1 hok
  obtain ⟨P3, B3, e3, ok3, hSe, hRS⟩ := seal_both a c a2 c2 P B l0 hok
  exact ms_walk a c a2 c2 P B oa oc oa2 oc2 PO BO l0 l1 w hS hO P1 B1 P2 B2 P3 B3 (eS P B.length) e1 e2 e3 (decide (P = PO) && decide (B = BO)) hN hP hSe hRN hRP hRS
    (fun a c a2 c2 w h => check_c a c a2 B.length c2 P w h.s1 h.v2.max) (fun w h => rspace_c a c a2 B.length c2 P w h.s1 h.v2.max) (rsmg_y ok1) (rsmg_y ok2) (rsmg_y ok3)
    (fun a c a2 c2 a' c' a2' c2' w h h' => same_c a c a2 c2 P B a' c' a2' c2' PO BO w h h' hok hokO) (fun a c a2 c2 a' c' a2' c2' w h h' => rsame_c a c a2 c2 P B a' c' a2' c2' PO BO w h h' hok hokO) (smg_y hok)
end Go.Proofs.Ytdbcbmdekdfdoaa
