/- WHAT IS PROVED: the run queue's without and insert: a list without an item, a list with one more. CONDITIONS: as the cells lie; at most 4000 items. -/
import Derived.Test.YtggikbcgijmhbaaH
import Derived.Deep.RegionLawGrows
import Derived.Deep.AppendSrc
import Derived.Deep.Upon
set_option linter.unusedSimpArgs false
set_option linter.unusedVariables false
namespace Go
theorem step_append_zero {P : Program} {ops : Array Oper} {o : Oper} {a : Act} {w : World} {K : Act → World → Prop} {Q : Exit → Act → World → Prop} {E : Prop}
    (hg : o.guard = none) (s x : Operand) (t : TypeId) (hop : o.op = Op.call { callee := Callee.builtin Builtin.append, args := #[s, x], argTypes := #[t, t] })
    (e : TypeId) (i : TypeInfo) (h1 : P.underlying t = some (.slice e)) (h2 : P.info? e = some i)
    (ao : Option Addr) (n cap : Nat) (hs : a.eval s = .slice ao n cap) (hle : n ≤ cap) (bo : Option Addr) (c : Nat) (hx : a.eval x = .slice bo 0 c)
    (hK : K (a.put o.dst (.slice ao n cap)) w) :
    if Region.wanted o (yielded ops a.tmps) = true then Oper.wp P o a w K Q else E := by
  have hw : Region.wanted o (yielded ops a.tmps) = true := by simp [Region.wanted, hg]
  rw [if_pos hw]
  have hrun : (Builtin.append_ #[t, t] o.type #[.slice ao n cap, .slice bo 0 c]).run P w = .ok (.slice ao n cap) w := by
    cases ao <;> cases bo <;> simp [Builtin.append_, run_underlying h1, sizeOf, typeInfo, h2, hle, storeCells, Builtin.lenOf, Builtin.firstCells, loadCells, loadCellsFrom]
  unfold Oper.wp
  simp [execOp, hop, resolve, invoke, builtin, hs, hx, hrun, Result.andThen]
  exact hK
theorem wpList_append_zero {P : Program} {ops : Array Oper} {rest : List Oper} {o : Oper} {a : Act} {w : World} {Q : Exit → Act → World → Prop}
    (hg : o.guard = none) (s x : Operand) (t : TypeId) (hop : o.op = Op.call { callee := Callee.builtin Builtin.append, args := #[s, x], argTypes := #[t, t] })
    (e : TypeId) (i : TypeInfo) (h1 : P.underlying t = some (.slice e)) (h2 : P.info? e = some i)
    (ao : Option Addr) (n cap : Nat) (hs : a.eval s = .slice ao n cap) (hle : n ≤ cap) (bo : Option Addr) (c : Nat) (hx : a.eval x = .slice bo 0 c)
    (hK : wpList P ops Q rest (a.put o.dst (.slice ao n cap)) w) : wpList P ops Q (o :: rest) a w := by
  refine wpList_plain hg fun K hK' => ?_
  have hrun : (Builtin.append_ #[t, t] o.type #[.slice ao n cap, .slice bo 0 c]).run P w = .ok (.slice ao n cap) w := by
    cases ao <;> cases bo <;> simp [Builtin.append_, run_underlying h1, sizeOf, typeInfo, h2, hle, storeCells, Builtin.lenOf, Builtin.firstCells, loadCells, loadCellsFrom]
  unfold Oper.wp
  simp [execOp, hop, resolve, invoke, builtin, hs, hx, hrun, Result.andThen]
  exact hK' _ _ hK
end Go
namespace Go.Proofs.Ytggikbcgijmhbaa
open Go Go.RowKit Go.QrBits Go.QrMem
/-- Where an item stands; -1: nowhere. -/
def idxM (xs : List Int) (r : Int) : Int := if r ∈ xs then (xs.takeWhile (· != r)).length else -1
theorem idx_yes {xs : List Int} {r : Int} {k : Nat} (hk : k < xs.length) (h : ∀ j, j < k → xs.getD j 0 ≠ r) (he : xs.getD k 0 = r) : idxM xs r = k ∧ xs.erase r = xs.take k ++ xs.drop (k + 1) := by
  induction xs generalizing k with
  | nil => simp at hk
  | cons x l ih =>
    cases k with
    | zero =>
      have hx : x = r := by simpa using he
      subst hx
      simp [idxM]
    | succ k =>
      have h0 : x ≠ r := by simpa using h 0 (by omega)
      obtain ⟨i1, i2⟩ := ih (k := k) (by simpa using hk) (fun j hj => by simpa using h (j + 1) (by omega)) (by simpa using he)
      have hm : r ∈ l := by
        apply Classical.byContradiction; intro hm; simp [idxM, hm] at i1
      refine ⟨?_, ?_⟩
      · simp only [idxM, hm, List.mem_cons, or_true, if_true, if_pos] at i1 ⊢
        simp [h0]
        omega
      · rw [List.erase_cons, if_neg (by simpa using h0), i2]; simp
theorem idx_no {xs : List Int} {r : Int} (h : ∀ j, j < xs.length → xs.getD j 0 ≠ r) : idxM xs r = -1 ∧ xs.erase r = xs := by
  have hm : r ∉ xs := by
    intro hm
    obtain ⟨k, hk, e⟩ := List.getElem_of_mem hm
    exact h k hk (by rw [getD_get hk]; exact e)
  exact ⟨by simp [idxM, hm], List.erase_of_not_mem hm⟩
theorem Try.underlying114' : Try.prog.underlying 114 = some (.slice 3) := by kernel_rfl
/-- A queue in memory: a slice over a block of numbers. -/
def RdyAt (B : Nat) (w : World) (ar : Option Addr) (cr : Nat) (xs : List Int) : Prop :=
  (SlV ar xs.length cr ∧ ∀ a, ar = some a → xs ≠ [] → B ≤ a.block) ∧ (xs = [] ∨ ∃ (b off : Nat) (cur : Array Value), ar = some ⟨b, off, none⟩ ∧ w.heap[b]? = some (.cells cur 3 (0, 0)) ∧ ∀ (j : Nat) (x : Value), (iV xs)[j]? = some x → w.cell? ⟨b, off + j, none⟩ = some x)
theorem RdyAt.mono {B B' : Nat} {w : World} {ar : Option Addr} {cr : Nat} {xs : List Int} (h : RdyAt B w ar cr xs) (hB : B' ≤ B) : RdyAt B' w ar cr xs := ⟨⟨h.1.1, fun a e n => Nat.le_trans hB (h.1.2 a e n)⟩, h.2⟩
theorem RdyAt.below {B : Nat} {w w' : World} {ar : Option Addr} {cr : Nat} {xs : List Int} (h : RdyAt B w ar cr xs) (hq : Below w.heap.size w w') : RdyAt B w' ar cr xs := by
  obtain ⟨h1, h2 | ⟨b, off, cur, rfl, hb, hc⟩⟩ := h
  · exact ⟨h1, .inl h2⟩
  · have hl := (Array.getElem?_eq_some_iff.1 hb).1
    exact ⟨h1, .inr ⟨b, off, cur, rfl, (hq.block b hl).trans hb, fun j x hx => (hq.cell (p := ⟨b, off + j, none⟩) hl).trans (hc j x hx)⟩⟩
theorem RdyAt.slAt {B : Nat} {w : World} {ar : Option Addr} {cr : Nat} {xs : List Int} (h : RdyAt B w ar cr xs) : SlAt w ar (iV xs) := by
  obtain ⟨h1, h2 | ⟨b, off, cur, rfl, hb, hc⟩⟩ := h
  · left; simp [h2, iV]
  · exact .inr ⟨b, off, rfl, (Array.getElem?_eq_some_iff.1 hb).1, hc⟩
theorem RdyAt.own {B : Nat} {w : World} {base n c : Nat} {a : Option Addr} {xs : List Int} (h : w.ownsRow base 3 1 (.slice a n c) n (iV xs)) (hB : B ≤ base) : RdyAt B w a c xs := by
  have hn : n = xs.length := by have := h.1; simp [iV] at this; omega
  subst hn
  refine ⟨⟨slV_own h, fun a' e _ => ?_⟩, ?_⟩
  · obtain ⟨_, (⟨h1, _⟩ | ⟨g, cap, cur, h1, h2, _⟩)⟩ := h
    · simp only [Value.slice.injEq] at h1; rw [h1.1] at e; cases e
    · simp only [Value.slice.injEq] at h1; rw [h1.1] at e; cases e; exact Nat.le_trans hB h2
  obtain ⟨_, (⟨_, h0⟩ | ⟨g, cap, cur, hv, hb, hg, _⟩)⟩ := h
  · exact .inl (List.eq_nil_of_length_eq_zero h0)
  · cases hv
    rename_i h1 h2
    refine .inr ⟨g, 0, cur, rfl, hg, fun j x hx => ?_⟩
    have hj := (List.getElem?_eq_some_iff.1 hx).1
    have hw : w.ownsRow base 3 1 (.slice (some ⟨g, 0, none⟩) xs.length c) xs.length (iV xs) := ⟨by assumption, .inr ⟨g, c, cur, rfl, hb, hg, by assumption⟩⟩
    rw [Nat.zero_add, hw.cellAt j (by simpa [iV] using hj)]; exact hx
set_option maxHeartbeats 1000000 in
set_option maxRecDepth 100000 in
theorem index_c {B : Nat} (ar : Option Addr) (cr : Nat) (xs : List Int) (r : Int) (w : World) (h : RdyAt B w ar cr xs) (hl : xs.length ≤ 4000) :
    Calls Try.prog 102 #[.slice ar xs.length cr, .int .i64 r] w fun e w' => e = .returned (.int .i64 (idxM xs r)) ∧ w = w' := by
  obtain ⟨h1, h2⟩ := h
  have hX : ∃ X, xs.length = X := ⟨_, rfl⟩
  obtain ⟨X, hX⟩ := hX
  have HX := Lib.hid hX
  have HC : Hid (∀ k, k < xs.length → ∃ b off : Nat, ar = some ⟨b, off, none⟩ ∧ w.cell? ⟨b, off + k, none⟩ = some (.int .i64 (xs.getD k 0))) := Lib.hid (by
    intro k hk
    rcases h2 with h2 | ⟨b, off, cur, rfl, hb, hc⟩
    · rw [h2] at hk; simp at hk
    · exact ⟨b, off, rfl, iV_cells hc k hk⟩)
  rw [hX] at hl ⊢
  clear h1 h2 hX
  go_enter Try.func102, Try.ntmps102
  go_wp2
  go_loop [8] (fun i => ∃ k : Nat, k ≤ X ∧ i = .int .i64 k ∧ Hid (∀ j, j < k → xs.getD j 0 ≠ r)) (fun i => X - (intOf i).toNat)
  case atStart => exact ⟨0, Nat.zero_le _, rfl, Lib.hid fun j hj => absurd hj (Nat.not_lt_zero j)⟩
  case round =>
    obtain ⟨k, hk, rfl, hall⟩ := hrel
    by_cases hlt : k < X
    · obtain ⟨b, off, rfl, hcx⟩ := HC.out k (by rw [HX.out]; exact hlt)
      have HY : Hid (xs.getD k 0 = r → idxM xs r = k) := Lib.hid fun he => (idx_yes (by rw [HX.out]; exact hlt) hall.out he).1
      generalize hy : xs.getD k 0 = y at *
      have HYY := Lib.hid hy
      clear hy
      cases hE : r == y with
      | true =>
        have he : idxM xs r = k := HY.out (by simpa using (eq_of_beq hE).symm)
        have HE := Lib.hid he
        clear he
        go_wp2
        go_ret
        exact ⟨by simp [HE.out], rfl⟩
      | false =>
        have hne : y ≠ r := fun e => by subst e; simp at hE
        have HN := Lib.hid hne
        clear hne
        go_wp2
        go_round
        case rel => exact ⟨k + 1, by omega, by go_num, Lib.hid fun j hj => by
          rcases Nat.lt_or_ge j k with h | h
          · exact hall.out j h
          · have e : j = k := by omega
            subst e; rw [HYY.out]; exact HN.out⟩
        case measure => simp [intOf]; omega
    · have HE := Lib.hid (idx_no (xs := xs) (r := r) (fun j hj => hall.out j (by rw [HX.out] at hj; omega))).1
      go_wp2
      go_ret
      exact ⟨by simp [HE.out], rfl⟩

theorem first_of {r : Int} : ∀ {xs : List Int}, r ∈ xs → ∃ k, k < xs.length ∧ (∀ j, j < k → xs.getD j 0 ≠ r) ∧ xs.getD k 0 = r
  | x :: l, h => by
    by_cases hx : x = r
    · exact ⟨0, by simp, fun j hj => absurd hj (Nat.not_lt_zero j), by simp [hx]⟩
    · have h' : r ∈ l := by
        rcases List.mem_cons.1 h with e | h
        · exact absurd e.symm hx
        · exact h
      obtain ⟨k, h1, h2, h3⟩ := first_of h'
      refine ⟨k + 1, by simp; omega, fun j hj => ?_, by simpa using h3⟩
      cases j with
      | zero => simpa using hx
      | succ j => simpa using h2 j (by omega)
theorem addr_add (b o j : Nat) : (⟨b, o, none⟩ : Addr).add j = ⟨b, o + j, none⟩ := by unfold Addr.add; split <;> simp_all
theorem iV_app (xs ys : List Int) : iV (xs ++ ys) = iV xs ++ iV ys := by simp [iV]
theorem iV_one (xs : List Int) : ∀ u ∈ iV xs, u.oneCell' = true := by
  intro u hu; simp only [iV, List.mem_map] at hu; obtain ⟨x, _, rfl⟩ := hu; rfl
/-- What a run queue's method hands back: the list xs, over an array that nothing writes to. -/
def RdyRes (B : Nat) (xs : List Int) (w : World) (e : Ending) (w' : World) : Prop := ∃ (a : Option Addr) (c : Nat), e = .returned (.slice a xs.length c) ∧ RdyAt B w' a c xs ∧ Below w.heap.size w w'
set_option maxHeartbeats 2000000 in
set_option maxRecDepth 100000 in
theorem without_c {B : Nat} (ar : Option Addr) (cr : Nat) (xs : List Int) (r : Int) (w : World) (h : RdyAt B w ar cr xs) (hl : xs.length ≤ 4000) (hB : B ≤ w.heap.size) :
    Calls Try.prog 89 #[.slice ar xs.length cr, .int .i64 r] w (RdyRes B (xs.erase r) w) := by
  have hI := index_c ar cr xs r w h hl
  by_cases hm : r ∈ xs
  · obtain ⟨k, hk, hall, hke⟩ := first_of hm
    obtain ⟨hi, he⟩ := idx_yes hk hall hke
    rw [hi] at hI
    obtain ⟨h1, h2⟩ := h
    rcases h2 with h2 | ⟨b, off, cur, rfl, hb, hc⟩
    · rw [h2] at hk; simp at hk
    have hbl := (Array.getElem?_eq_some_iff.1 hb).1
    have hcap := h1.1.1
    have hmx := h1.1.2.1
    have hBb : B ≤ b := h1.2 _ rfl (fun e => by rw [e] at hk; simp at hk)
    unfold maxLen at hmx
    have HE := Lib.hid he
    have HB := Lib.hid hb
    have HC := Lib.hid hc
    have HI := Lib.hid hI
    have k0 : (0 : Int) ≤ (k : Int) := Int.natCast_nonneg _
    have kN : (k : Int) < (xs.length : Int) := by omega
    have hlen : (xs.erase r).length = xs.length - 1 := by rw [he]; simp; omega
    have HL := Lib.hid hlen
    clear hI hi he hall hke hc hb hm h1 hlen
    generalize hX : xs.length = X at *
    have HX := Lib.hid hX
    clear hX
    by_cases hlast : k + 1 < X
    · have hw1 : IntKind.i64.wrap ((k : Int) + 1) = (k : Int) + 1 := by exact IntWalk.i64_in _ (by omega)
      have k1 : (0 : Int) ≤ (k : Int) + 1 := by omega
      have k2 : ((k : Int) + 1).toNat = k + 1 := by omega
      go_enter Try.func89, Try.ntmps89
      go_wp2_with fail
      refine HI.out.mono ?_
      rintro e w' ⟨rfl, rfl⟩
      go_wp2_with fail
      have hk1 : k ≤ cr := by omega
      have hk2 : k + 1 ≤ X := by omega
      have hk3 : k + 1 ≤ cr := by omega
      have hk4 : ((k : Int) + 1) ≤ (X : Int) := by omega
      have hne : ¬ (cr = k + 1) := by omega
      have hO : Hid (∀ W, Below w.heap.size w W → ∀ j u, (iV (xs.take k))[j]? = some u → W.cell? ((⟨b, off, none⟩ : Addr).add j) = some u) := Lib.hid fun W hW j u hu => by
        rw [addr_add, hW.cell hbl]
        have hj := (List.getElem?_eq_some_iff.1 hu).1
        simp only [iV, List.length_map, List.length_take] at hj
        refine HC.out j u ?_
        simp only [iV, List.getElem?_map] at hu ⊢
        rwa [List.getElem?_take_of_lt (by omega)] at hu
      have hN : Hid (∀ W, Below w.heap.size w W → ∀ j u, (iV (xs.drop (k + 1)))[j]? = some u → W.cell? ((⟨b, off + (k + 1), none⟩ : Addr).add j) = some u) := Lib.hid fun W hW j u hu => by
        rw [addr_add, Nat.add_assoc, hW.cell hbl]
        refine HC.out (k + 1 + j) u ?_
        simp only [iV, List.getElem?_map] at hu ⊢
        rwa [List.getElem?_drop] at hu
      have hl1 : (iV (xs.take k)).length = k * 1 := by simp [iV, HX.out]; omega
      have hl2 : (iV (xs.drop (k + 1))).length = (X - (k + 1)) * 1 := by simp [iV, HX.out]
      have HL1 := Lib.hid hl1
      have HL2 := Lib.hid hl2
      obtain ⟨i0, hi, hz0', hz1, hz2⟩ := info_parts Try.info3
      clear hl1 hl2
      refine wp_quiet_tail 8 (by kernel_rfl) (by kernel_rfl) ?_
      simp only [List.take_succ_cons, List.take_zero, List.drop_succ_cons, List.drop_zero]
      repeat (quiet_step (fail))
      refine wpQuiet_nil ?_
      intro _ hw'; obtain ⟨p, rfl⟩ := hw'
      have hbp := below_reg w p
      have hBase : B ≤ (reg w p).heap.size := Nat.le_trans hB hbp.size
      clear hw1 k2
      have HI0 := Lib.hid hi
      have Hz0 := Lib.hid hz0'
      clear hi hz0'
      go_wp2_with (at_builtin; refine wpList_append_grows _ rfl (.tmp 15) (.tmp 19) 114 rfl 3 i0 (.int .i64 0) 1 8 Try.underlying114' HI0.out Hz0.out hz1 hz2 rfl (by decide) (some ⟨b, off, none⟩) k k (iV (xs.take k)) rfl (by simp) HL1.out (fun b' hb' j u hu => by cases hb'; exact hO.out _ hbp j u hu) ⟨b, off + (k + 1), none⟩ (X - (k + 1)) (cr - (k + 1)) (iV (xs.drop (k + 1))) rfl HL2.out (fun j u hu => hN.out _ hbp j u hu) (iV_one _) (by omega) (by unfold maxLen; omega) (by omega) ?_; intro v' w' hown hgrow)
      rw [← iV_app] at hown
      have HW := Lib.hid hown
      have HG := Lib.hid (hbp.trans ((Below.refl _ _ |>.grown hgrow (Nat.le_refl _) (fun k h => by cases h)).mono hbp.size))
      clear hown hgrow hbp
      obtain ⟨a', c', rfl⟩ := own_slice HW.out
      go_ret
      refine ⟨a', c', ?_, ?_, HG.out⟩
      · have : k + (X - (k + 1)) = (xs.erase r).length := by rw [HL.out]; omega
        rw [← this]; simp
      · rw [HE.out]; exact RdyAt.own HW.out hBase
    · have hw1 : IntKind.i64.wrap ((k : Int) + 1) = (k : Int) + 1 := by exact IntWalk.i64_in _ (by omega)
      have k1 : (0 : Int) ≤ (k : Int) + 1 := by omega
      have k2 : ((k : Int) + 1).toNat = k + 1 := by omega
      have hk1 : k ≤ cr := by omega
      have hk2 : k + 1 ≤ X := by omega
      have hk3 : k + 1 ≤ cr := by omega
      have hk4 : ((k : Int) + 1) ≤ (X : Int) := by omega
      have HX0 : Hid (X - (k + 1) = 0) := Lib.hid (by omega)
      have HD : Hid (xs.erase r = xs.take k) := Lib.hid (by rw [HE.out, List.drop_of_length_le (by rw [HX.out]; omega), List.append_nil])
      have HR : Hid (∀ W, Below w.heap.size w W → RdyAt B W (some ⟨b, off, none⟩) k (xs.take k)) := Lib.hid fun W hW => by
        refine ⟨⟨⟨by simp; omega, by unfold maxLen; omega, fun h => by cases h⟩, fun a e _ => by cases e; exact hBb⟩, .inr ⟨b, off, cur, rfl, (hW.block b hbl).trans HB.out, fun j x hx => ?_⟩⟩
        rw [hW.cell hbl]
        have hj := (List.getElem?_eq_some_iff.1 hx).1
        simp only [iV, List.length_map, List.length_take] at hj
        refine HC.out j x ?_
        simp only [iV, List.getElem?_map] at hx ⊢
        rwa [List.getElem?_take_of_lt (by omega)] at hx
      have HLn : Hid ((xs.take k).length = k) := Lib.hid (by simp [HX.out]; omega)
      obtain ⟨i0, hi, hz0', hz1, hz2⟩ := info_parts Try.info3
      have HI0 := Lib.hid hi
      clear hi hz0' hz1 hz2
      go_enter Try.func89, Try.ntmps89
      go_wp2_with fail
      refine HI.out.mono ?_
      rintro e w' ⟨rfl, rfl⟩
      go_wp2_with fail
      refine wp_quiet_tail 8 (by kernel_rfl) (by kernel_rfl) ?_
      simp only [List.take_succ_cons, List.take_zero, List.drop_succ_cons, List.drop_zero]
      repeat (quiet_step (fail))
      refine wpQuiet_nil ?_
      intro _ hw'; obtain ⟨p, rfl⟩ := hw'
      have hbp := below_reg w p
      clear hw1 k2
      rw [HX0.out]
      go_wp2_with (at_builtin; refine wpList_append_zero rfl (.tmp 15) (.tmp 19) 114 rfl 3 i0 Try.underlying114' HI0.out _ k k rfl (Nat.le_refl _) _ _ rfl ?_)
      all_goals
        go_ret
        exact ⟨some ⟨b, off, none⟩, k, by rw [HD.out, HLn.out]; simp, by rw [HD.out]; exact HR.out _ hbp, hbp⟩
  · have hi := idx_no (xs := xs) (r := r) (fun j hj e => hm (by rw [← e]; exact getD_mem hj))
    rw [hi.1] at hI
    have HE := Lib.hid hi.2
    have HR := Lib.hid h
    have HI := Lib.hid hI
    clear hI hi hm h
    go_enter Try.func89, Try.ntmps89
    go_wp2_with fail
    refine HI.out.mono ?_
    rintro e w' ⟨rfl, rfl⟩
    go_wp2
    go_ret
    exact ⟨ar, cr, by simp [HE.out], by rw [HE.out]; exact HR.out, Below.refl _ _⟩

theorem insM_at {xs : List Int} {r : Int} {p : Int → Bool} : ∀ {k : Nat}, k ≤ xs.length → (∀ j, j < k → p (xs.getD j 0) = true) → (k < xs.length → p (xs.getD k 0) = false) → insM xs r p = xs.take k ++ r :: xs.drop k := by
  induction xs with
  | nil => intro k hk _ _; simp at hk; subst hk; simp [insM]
  | cons x l ih =>
    intro k hk h1 h2
    cases k with
    | zero =>
      have : p x = false := by simpa using h2 (by simp)
      simp [insM, this]
    | succ k =>
      have hx : p x = true := by simpa using h1 0 (by omega)
      have := ih (k := k) (by simpa using hk) (fun j hj => by simpa using h1 (j + 1) (by omega)) (fun hj => by simpa using h2 (by simpa using hj))
      simp only [insM] at this
      simp [insM, hx, this]
/-- What a predicate of the queue answers, in every later world. -/
def AheadC (F : Nat) (cap : Array Value) (xs : List Int) (p : Int → Bool) (w : World) : Prop :=
  ∀ r ∈ xs, ∀ W, Below w.heap.size w W → Calls Try.prog F (#[.int .i64 r] ++ cap) W fun e w' => e = .returned (.bool (p r)) ∧ ∃ n, w' = W.drewN n
set_option maxHeartbeats 2000000 in
set_option maxRecDepth 100000 in
theorem insert_c {B : Nat} (ar : Option Addr) (cr : Nat) (xs : List Int) (r : Int) (F : Nat) (p1 p2 : Value) (p : Int → Bool) (w : World) (h : RdyAt B w ar cr xs) (hl : xs.length ≤ 4000) (hB : B ≤ w.heap.size) (hF : ∀ args w, (callFunc F args).run Try.prog w = .ok (.enter F args) w)
    (hA : AheadC F #[p1, p2] xs p w) :
    Calls Try.prog 91 #[.slice ar xs.length cr, .int .i64 r, .func (.func F) #[] #[p1, p2]] w (RdyRes B (insM xs r p) w) := by
  have HR := Lib.hid h
  have HA := Lib.hid hA
  have HP : Hid (∀ k : Nat, k ≤ xs.length → (∀ j, j < k → p (xs.getD j 0) = true) → (k < xs.length → p (xs.getD k 0) = false) → insM xs r p = xs.take k ++ r :: xs.drop k) := Lib.hid fun k => insM_at
  have hcap := h.1.1.1
  have hmx := h.1.1.2.1
  unfold maxLen at hmx
  have HC : Hid (∀ k, k < xs.length → ∃ b off : Nat, ar = some ⟨b, off, none⟩ ∧ b < w.heap.size ∧ w.cell? ⟨b, off + k, none⟩ = some (.int .i64 (xs.getD k 0))) := Lib.hid (by
    intro k hk
    obtain ⟨_, h2⟩ := h
    rcases h2 with h2 | ⟨b, off, cur, rfl, hb, hc⟩
    · rw [h2] at hk; simp at hk
    · exact ⟨b, off, rfl, (Array.getElem?_eq_some_iff.1 hb).1, iV_cells hc k hk⟩)
  clear h hA
  generalize hX : xs.length = X at *
  have HX := Lib.hid hX
  clear hX
  go_enter Try.func91, Try.ntmps91
  go_wp2_with fail
  go_loopw [7] (fun i wr => ∃ (k : Nat) (wv : World), wv = wr ∧ k ≤ X ∧ i = .int .i64 k ∧ Below w.heap.size w wv ∧ Hid (∀ j, j < k → p (xs.getD j 0) = true)) (fun i _ => X - (intOf i).toNat)
  case atStart => exact ⟨0, _, rfl, Nat.zero_le _, rfl, Below.refl _ _, Lib.hid fun j hj => absurd hj (Nat.not_lt_zero j)⟩
  case round =>
    obtain ⟨k, wv, hw, hk, rfl, hK, hall⟩ := hrel
    subst hw
    have k0 : (0 : Int) ≤ (k : Int) := Int.natCast_nonneg _
    by_cases hlt : k < X
    · obtain ⟨b, off, rfl, hbl, hcx⟩ := HC.out k hlt
      have hcx := (hK.cell (p := ⟨b, off + k, none⟩) hbl).trans hcx
      have hC := HA.out (xs.getD k 0) (getD_mem (by have := HX.out; omega)) wv hK
      have k1 : (k : Int) < (X : Int) := by omega
      have HPK : Hid (p (xs.getD k 0) = false → insM xs r p = xs.take k ++ r :: xs.drop k) := Lib.hid fun hf => HP.out k (by have := HX.out; omega) hall.out (fun _ => hf)
      generalize hy : xs.getD k 0 = y at *
      have HY := Lib.hid hy
      have HCC := Lib.hid hC
      clear hy hC
      cases hpy : p y with
      | true =>
        rw [hpy] at HCC
        have HPY := Lib.hid hpy
        clear hpy
        go_wp2_with fail
        refine HCC.out.mono ?_
        rintro e w' ⟨rfl, n, rfl⟩
        go_wp2
        go_roundw
        case rel => exact ⟨k + 1, _, rfl, by omega, by go_num, hK.trans ((below_of_drewN _).mono hK.size), Lib.hid fun j hj => by
          rcases Nat.lt_or_ge j k with h | h
          · exact hall.out j h
          · have e : j = k := by omega
            subst e; rw [HY.out]; exact HPY.out⟩
        case measure => simp [intOf]; omega
      | false =>
        rw [hpy] at HCC
        have HI := Lib.hid (HPK.out hpy)
        clear hpy
        go_wp2_with fail
        refine HCC.out.mono ?_
        rintro e w' ⟨rfl, n, rfl⟩
        go_wp2_with fail
        have hbw := hK.trans ((below_of_drewN n).mono hK.size)
        obtain ⟨W, hW⟩ : ∃ W, (wv.drewN n) = W := ⟨_, rfl⟩
        rw [hW] at hbw ⊢
        clear hW
        have hk1 : k ≤ cr := by omega
        have hk2 : k ≤ X := by omega
        have hne : ¬ (cr = k) := by omega
        refine wp_region_any (by kernel_rfl) ?_
        change wpAny _ _ _ _ _ _ _ (World.drew _)
        refine wpAny_take (i := 0) (v := ?_) rfl (by kernel_rfl) (by kernel_rfl) (by kernel_rfl) (fun _ _ _ h => h) (Or.inl ⟨by rfl, ?_⟩) ?_
        rotate_left 1
        · intro w; go_simp; try with_reducible rfl
        simp only [Act.put, List.setIfInBounds_toArray, List.set_cons_zero, List.set_cons_succ]
        refine wpAny_take (i := 1) (v := ?_) rfl (by kernel_rfl) (by kernel_rfl) (by kernel_rfl) (fun _ _ _ h => h) (Or.inl ⟨by rfl, ?_⟩) ?_
        rotate_left 1
        · intro w; go_simp; try with_reducible rfl
        simp only [Act.put, List.setIfInBounds_toArray, List.set_cons_zero, List.set_cons_succ]
        refine wpAny_take (i := 2) (v := ?_) rfl (by kernel_rfl) (by kernel_rfl) (by kernel_rfl) (fun _ _ _ h => h) (Or.inl ⟨by rfl, ?_⟩) ?_
        rotate_left 1
        · intro w; go_simp; try with_reducible rfl
        simp only [Act.put, List.setIfInBounds_toArray, List.set_cons_zero, List.set_cons_succ]
        refine wpAny_take (i := 3) (v := ?_) rfl (by kernel_rfl) (by kernel_rfl) (by kernel_rfl) (fun _ _ _ h => h) (Or.inl ⟨by rfl, ?_⟩) ?_
        rotate_left 1
        · intro w; go_simp; try with_reducible rfl
        simp only [Act.put, List.setIfInBounds_toArray, List.set_cons_zero, List.set_cons_succ]
        refine wpAny_take (i := 4) (v := ?_) rfl (by kernel_rfl) (by kernel_rfl) (by kernel_rfl) (fun _ _ _ h => h) (Or.inl ⟨by rfl, ?_⟩) ?_
        rotate_left 1
        · intro w; go_simp; try with_reducible rfl
        simp only [Act.put, List.setIfInBounds_toArray, List.set_cons_zero, List.set_cons_succ]
        refine wpAny_take (i := 7) (v := ?_) rfl (by kernel_rfl) (by kernel_rfl) (by kernel_rfl) (fun _ _ _ h => h) (Or.inl ⟨by rfl, ?_⟩) ?_
        rotate_left 1
        · intro w; go_simp; try with_reducible rfl
        simp only [Act.put, List.setIfInBounds_toArray, List.set_cons_zero, List.set_cons_succ]
        refine wpAny_take (i := 8) (v := ?_) rfl (by kernel_rfl) (by kernel_rfl) (by kernel_rfl) (fun _ _ _ h => h) (Or.inl ⟨by rfl, ?_⟩) ?_
        rotate_left 1
        · intro w; go_simp; try with_reducible rfl
        simp only [Act.put, List.setIfInBounds_toArray, List.set_cons_zero, List.set_cons_succ]
        refine wpAny_take (i := 9) (v := ?_) rfl (by kernel_rfl) (by kernel_rfl) (by kernel_rfl) (fun _ _ _ h => h) (Or.inl ⟨by rfl, ?_⟩) ?_
        rotate_left 1
        · intro w; go_simp; try with_reducible rfl
        simp only [Act.put, List.setIfInBounds_toArray, List.set_cons_zero, List.set_cons_succ]
        obtain ⟨i0, hi, hz0', hz1, hz2⟩ := info_parts Try.info3
        have hcells : Hid (∀ j, j < X → w.cell? ⟨b, off + j, none⟩ = some (.int .i64 (xs.getD j 0))) := Lib.hid fun j hj => by
          obtain ⟨b', off', e, _, hc⟩ := HC.out j hj
          cases e; exact hc
        have hO : Hid (∀ W, Below w.heap.size w W → ∀ j u, (iV (xs.take k))[j]? = some u → W.cell? ((⟨b, off, none⟩ : Addr).add j) = some u) := Lib.hid fun W hW j u hu => by
          rw [addr_add, hW.cell hbl]
          have hj := (List.getElem?_eq_some_iff.1 hu).1
          simp only [iV, List.length_map, List.length_take] at hj
          rw [hcells.out j (by omega), ← hu]
          simp only [iV, List.getElem?_map]
          rw [List.getElem?_take_of_lt (by omega), List.getElem?_eq_getElem (by have := HX.out; omega), getD_get (by have := HX.out; omega)]; rfl
        have hN : Hid (∀ W, Below w.heap.size w W → ∀ j u, (iV (xs.drop k))[j]? = some u → W.cell? ((⟨b, off + k, none⟩ : Addr).add j) = some u) := Lib.hid fun W hW j u hu => by
          have hj := (List.getElem?_eq_some_iff.1 hu).1
          simp only [iV, List.length_map, List.length_drop] at hj
          have hx := HX.out
          rw [addr_add, Nat.add_assoc, hW.cell hbl, hcells.out (k + j) (by omega), ← hu]
          simp only [iV, List.getElem?_map]
          rw [List.getElem?_drop, List.getElem?_eq_getElem (by omega), getD_get (by omega)]; rfl
        have HL1 : Hid ((iV (xs.take k)).length = k * 1) := Lib.hid (by have := HX.out; simp [iV]; omega)
        have HL2 : Hid ((iV (xs.drop k)).length = (X - k) * 1) := Lib.hid (by have := HX.out; simp [iV]; omega)
        have HI0 := Lib.hid hi
        have Hz0 := Lib.hid hz0'
        have hb1 : Below w.heap.size w (W.alloc (.cells #[.int .i64 r] 3)).drew := (hbw.alloc hbw.size _).drew
        have HB1 := Lib.hid hb1
        have hnew := World.news_of_block (w := (W.alloc (.cells #[.int .i64 r] 3)).drew) (heap_alloc_new W (.cells #[.int .i64 r] 3))
        have HNEW := Lib.hid hnew
        have hWs : w.heap.size ≤ W.heap.size := hbw.size
        clear hi hz0' hb1 hnew hcx hbw HC HR HA HP hall hF
        refine wpAny_ready (rs := [5]) (by kernel_rfl) (by simp) ?_
        refine AllReady.cons (o := _) rfl (fun K hK => ?_) AllReady.nil
        go_simp
        refine hK _ _ ?_
        clear hK K
        try simp only [Act.put, List.setIfInBounds_toArray, List.set_cons_zero, List.set_cons_succ]
        refine wpAny_ready (rs := [6]) (by kernel_rfl) (by simp) ?_
        refine AllReady.cons (o := _) rfl (fun K hK => ?_) AllReady.nil
        refine step_append_grows rfl (.tmp 25) (.tmp 27) 114 rfl 3 i0 (.int .i64 0) 1 8 Try.underlying114' HI0.out Hz0.out hz1 hz2 rfl (by decide) (some ⟨b, off, none⟩) k k (iV (xs.take k)) rfl (by simp) HL1.out (fun b' hb' j u hu => by cases hb'; exact hO.out _ HB1.out j u hu) ⟨W.heap.size, 0, none⟩ 1 1 [.int .i64 r] rfl rfl (fun j u hu => HNEW.out j u hu) (by intro u hu; simp at hu; subst hu; rfl) (by omega) (by unfold maxLen; omega) (by omega) ?_
        intro v1 w2 hown1 hgrow1
        refine hK _ _ ?_
        clear hK K
        have HB2 : Hid (Below w.heap.size w w2) := Lib.hid (HB1.out.grown hgrow1 HB1.out.size (fun k h => by cases h))
        have HOW := Lib.hid hown1
        have hsz2 : (W.alloc (.cells #[.int .i64 r] 3)).drew.heap.size ≤ w2.heap.size := hgrow1.size
        have hsz3 : w.heap.size ≤ (W.alloc (.cells #[.int .i64 r] 3)).drew.heap.size := HB1.out.size
        generalize (W.alloc (.cells #[.int .i64 r] 3)).drew.heap.size = Z at hsz2 hsz3 HOW
        clear hown1 hgrow1 HB1 HNEW
        try simp only [Act.put, List.setIfInBounds_toArray, List.set_cons_zero, List.set_cons_succ]
        refine wpAny_ready (rs := [10]) (by kernel_rfl) (by simp) ?_
        refine AllReady.cons (o := _) rfl (fun K hK => ?_) AllReady.nil
        refine step_append_lies _ rfl (.tmp 28) (.tmp 31) 114 rfl Z 3 i0 (.int .i64 0) 1 8 Try.underlying114' HI0.out Hz0.out hz1 hz2 rfl (by decide) v1 (k + 1) _ rfl HOW.out ⟨b, off + k, none⟩ (X - k) (cr - k) (iV (xs.drop k)) rfl HL2.out (fun j u hu => hN.out _ HB2.out j u hu) (iV_one _) (by omega) (by unfold maxLen; omega) (by omega) hsz2 _ rfl ?_
        intro g cap w3 hown3 hgrow3 _ _
        refine hK _ _ ?_
        clear hK K
        have HB3 : Hid (Below w.heap.size w w3) := Lib.hid (HB2.out.grown hgrow3 HB2.out.size (fun k h => by have := own_block HOW.out k h; omega))
        have hown4 : w3.ownsRow Z 3 1 (.slice (some ⟨g, 0, none⟩) (k + 1 + (X - k)) cap) (k + 1 + (X - k)) (iV (insM xs r p)) := by
          have e : iV (insM xs r p) = iV (xs.take k) ++ [.int .i64 r] ++ iV (xs.drop k) := by rw [HI.out]; simp [iV]
          rw [e]; exact hown3
        have HW := Lib.hid hown4
        have HLn : Hid (k + 1 + (X - k) = (insM xs r p).length) := Lib.hid (by have := HX.out; rw [HI.out]; simp; omega)
        clear hown3 hown4 hgrow3
        try simp only [Act.put, List.setIfInBounds_toArray, List.set_cons_zero, List.set_cons_succ]
        refine wpAny_ready (rs := [11]) (by kernel_rfl) (by simp) ?_
        refine AllReady.cons (o := _) rfl (fun K hK => ?_) AllReady.nil
        go_simp
        refine hK _ _ ?_
        clear hK K
        refine wpAny_done (by kernel_rfl) ?_ _
        go_wp2
        go_ret
        exact ⟨some ⟨g, 0, none⟩, cap, by rw [← HLn.out]; simp, RdyAt.own HW.out (by omega), HB3.out⟩
    · obtain rfl : k = X := by omega
      have HI : Hid (insM xs r p = xs.take k ++ r :: xs.drop k) := Lib.hid (HP.out k (Nat.le_refl _) hall.out (fun h => absurd h (Nat.lt_irrefl _)))
      have hcap' : (ar = none ∧ k = 0 ∧ cr = 0) ∨ ∃ ad : Addr, ar = some ad := by
        cases har : ar with
        | none => obtain ⟨⟨⟨_, _, h3⟩, _⟩, _⟩ := HR.out; obtain ⟨h4, h5⟩ := h3 har; exact .inl ⟨rfl, by have := HX.out; omega, h5⟩
        | some ad => exact .inr ⟨ad, rfl⟩
      rcases hcap' with ⟨rfl, rfl, rfl⟩ | ⟨ad, rfl⟩
      · have hx0 : xs = [] := List.eq_nil_of_length_eq_zero HX.out
        subst hx0
        have HL1 : Hid (([] : List Value).length = 0 * 1) := Lib.hid rfl
        clear HC HR HA HP hall hF hlt
        go_wp2_with fail
        refine wp_region_any (by kernel_rfl) ?_
        change wpAny _ _ _ _ _ _ _ (World.drew _)
        refine wpAny_take (i := 0) (v := ?_) rfl (by kernel_rfl) (by kernel_rfl) (by kernel_rfl) (fun _ _ _ h => h) (Or.inl ⟨by rfl, ?_⟩) ?_
        rotate_left 1
        · intro w; go_simp; try with_reducible rfl
        simp only [Act.put, List.setIfInBounds_toArray, List.set_cons_zero, List.set_cons_succ]
        refine wpAny_take (i := 1) (v := ?_) rfl (by kernel_rfl) (by kernel_rfl) (by kernel_rfl) (fun _ _ _ h => h) (Or.inl ⟨by rfl, ?_⟩) ?_
        rotate_left 1
        · intro w; go_simp; try with_reducible rfl
        simp only [Act.put, List.setIfInBounds_toArray, List.set_cons_zero, List.set_cons_succ]
        refine wpAny_take (i := 2) (v := ?_) rfl (by kernel_rfl) (by kernel_rfl) (by kernel_rfl) (fun _ _ _ h => h) (Or.inl ⟨by rfl, ?_⟩) ?_
        rotate_left 1
        · intro w; go_simp; try with_reducible rfl
        simp only [Act.put, List.setIfInBounds_toArray, List.set_cons_zero, List.set_cons_succ]
        refine wpAny_take (i := 3) (v := ?_) rfl (by kernel_rfl) (by kernel_rfl) (by kernel_rfl) (fun _ _ _ h => h) (Or.inl ⟨by rfl, ?_⟩) ?_
        rotate_left 1
        · intro w; go_simp; try with_reducible rfl
        simp only [Act.put, List.setIfInBounds_toArray, List.set_cons_zero, List.set_cons_succ]
        refine wpAny_take (i := 4) (v := ?_) rfl (by kernel_rfl) (by kernel_rfl) (by kernel_rfl) (fun _ _ _ h => h) (Or.inl ⟨by rfl, ?_⟩) ?_
        rotate_left 1
        · intro w; go_simp; try with_reducible rfl
        simp only [Act.put, List.setIfInBounds_toArray, List.set_cons_zero, List.set_cons_succ]
        refine wpAny_take (i := 7) (v := ?_) rfl (by kernel_rfl) (by kernel_rfl) (by kernel_rfl) (fun _ _ _ h => h) (Or.inl ⟨by rfl, ?_⟩) ?_
        rotate_left 1
        · intro w; go_simp; try with_reducible rfl
        simp only [Act.put, List.setIfInBounds_toArray, List.set_cons_zero, List.set_cons_succ]
        refine wpAny_take (i := 8) (v := ?_) rfl (by kernel_rfl) (by kernel_rfl) (by kernel_rfl) (fun _ _ _ h => h) (Or.inl ⟨by rfl, ?_⟩) ?_
        rotate_left 1
        · intro w; go_simp; try with_reducible rfl
        simp only [Act.put, List.setIfInBounds_toArray, List.set_cons_zero, List.set_cons_succ]
        refine wpAny_take (i := 9) (v := ?_) rfl (by kernel_rfl) (by kernel_rfl) (by kernel_rfl) (fun _ _ _ h => h) (Or.inl ⟨by rfl, ?_⟩) ?_
        rotate_left 1
        · intro w; go_simp; try with_reducible rfl
        simp only [Act.put, List.setIfInBounds_toArray, List.set_cons_zero, List.set_cons_succ]
        obtain ⟨i0, hi, hz0', hz1, hz2⟩ := info_parts Try.info3
        have HI0 := Lib.hid hi
        have Hz0 := Lib.hid hz0'
        have HB1 : Hid (Below w.heap.size w (wv.alloc (.cells #[.int .i64 r] 3)).drew) := Lib.hid (hK.alloc hK.size _).drew
        have HNEW := Lib.hid (World.news_of_block (w := (wv.alloc (.cells #[.int .i64 r] 3)).drew) (heap_alloc_new wv (.cells #[.int .i64 r] 3)))
        have hWs : w.heap.size ≤ wv.heap.size := hK.size
        have hBase : B ≤ (wv.alloc (.cells #[.int .i64 r] 3)).drew.heap.size := Nat.le_trans hB HB1.out.size
        clear hi hz0'
        refine wpAny_ready (rs := [5]) (by kernel_rfl) (by simp) ?_
        refine AllReady.cons (o := _) rfl (fun K hK => ?_) AllReady.nil
        go_simp
        refine hK _ _ ?_
        clear hK K
        try simp only [Act.put, List.setIfInBounds_toArray, List.set_cons_zero, List.set_cons_succ]
        refine wpAny_ready (rs := [6]) (by kernel_rfl) (by simp) ?_
        refine AllReady.cons (o := _) rfl (fun K hK => ?_) AllReady.nil
        refine step_append_grows rfl (.tmp 25) (.tmp 27) 114 rfl 3 i0 (.int .i64 0) 1 8 Try.underlying114' HI0.out Hz0.out hz1 hz2 rfl (by decide) none 0 0 ([] : List Value) rfl (fun _ => ⟨rfl, rfl⟩) HL1.out (fun b' hb' j u hu => by cases hb') ⟨wv.heap.size, 0, none⟩ 1 1 [.int .i64 r] rfl rfl (fun j u hu => HNEW.out j u hu) (by intro u hu; simp at hu; subst hu; rfl) (by omega) (by unfold maxLen; omega) (by omega) ?_
        intro v1 w2 hown1 hgrow1
        refine hK _ _ ?_
        clear hK K
        have HB2 : Hid (Below w.heap.size w w2) := Lib.hid (HB1.out.grown hgrow1 HB1.out.size (fun k h => by cases h))
        obtain ⟨g, cap, rfl⟩ := ownsRow_succ hown1
        have HW : Hid (w2.ownsRow (wv.alloc (.cells #[.int .i64 r] 3)).drew.heap.size 3 1 (.slice (some ⟨g, 0, none⟩) (0 + 1) cap) (0 + 1) (iV (insM [] r p))) := Lib.hid (by
          have e : iV (insM [] r p) = ([] : List Value) ++ [.int .i64 r] := by rw [HI.out]; simp [iV]
          rw [e]; exact hown1)
        have hcp : 0 + 1 ≤ cap := (slV_own hown1).1
        have HLn : Hid (0 + 1 = (insM [] r p).length) := Lib.hid (by have := HX.out; rw [HI.out]; simp; try omega)
        clear hown1 hgrow1 HB1 HNEW
        try simp only [Act.put, List.setIfInBounds_toArray, List.set_cons_zero, List.set_cons_succ]
        refine wpAny_ready (rs := [10]) (by kernel_rfl) (by simp) ?_
        refine AllReady.cons (o := _) rfl (fun K hK => ?_) AllReady.nil
        refine step_append_zero rfl (.tmp 28) (.tmp 31) 114 rfl 3 i0 Try.underlying114' HI0.out _ (0 + 1) cap rfl hcp _ _ rfl ?_
        refine hK _ _ ?_
        clear hK K
        try simp only [Act.put, List.setIfInBounds_toArray, List.set_cons_zero, List.set_cons_succ]
        refine wpAny_ready (rs := [11]) (by kernel_rfl) (by simp) ?_
        refine AllReady.cons (o := _) rfl (fun K hK => ?_) AllReady.nil
        go_simp
        refine hK _ _ ?_
        clear hK K
        refine wpAny_done (by kernel_rfl) ?_ _
        go_wp2
        go_ret
        exact ⟨some ⟨g, 0, none⟩, cap, by rw [← HLn.out]; simp, RdyAt.own HW.out hBase, HB2.out⟩
      · have HL1 : Hid ((iV xs).length = k * 1) := Lib.hid (by have := HX.out; simp [iV]; omega)
        have hO : Hid (∀ W, Below w.heap.size w W → ∀ j u, (iV xs)[j]? = some u → W.cell? (ad.add j) = some u) := Lib.hid fun W hW j u hu => by
          obtain ⟨_, h2 | ⟨b, off, cur, e, hb, hc⟩⟩ := HR.out
          · rw [h2] at hu; simp [iV] at hu
          · cases e
            rw [addr_add, hW.cell (Array.getElem?_eq_some_iff.1 hb).1]; exact hc j u hu
        have HIx : Hid (insM xs r p = xs ++ [r]) := Lib.hid (by have := HX.out; rw [HI.out, List.take_of_length_le (by omega), List.drop_of_length_le (by omega)])
        have hk1 : k ≤ cr := hcap
        clear HC HR HA HP hall hF hlt
        by_cases hck : cr = k
        · obtain rfl := hck
          go_wp2_with fail
          refine wp_region_any (by kernel_rfl) ?_
          change wpAny _ _ _ _ _ _ _ (World.drew _)
          refine wpAny_take (i := 0) (v := ?_) rfl (by kernel_rfl) (by kernel_rfl) (by kernel_rfl) (fun _ _ _ h => h) (Or.inl ⟨by rfl, ?_⟩) ?_
          rotate_left 1
          · intro w; go_simp; try with_reducible rfl
          simp only [Act.put, List.setIfInBounds_toArray, List.set_cons_zero, List.set_cons_succ]
          refine wpAny_take (i := 1) (v := ?_) rfl (by kernel_rfl) (by kernel_rfl) (by kernel_rfl) (fun _ _ _ h => h) (Or.inl ⟨by rfl, ?_⟩) ?_
          rotate_left 1
          · intro w; go_simp; try with_reducible rfl
          simp only [Act.put, List.setIfInBounds_toArray, List.set_cons_zero, List.set_cons_succ]
          refine wpAny_take (i := 2) (v := ?_) rfl (by kernel_rfl) (by kernel_rfl) (by kernel_rfl) (fun _ _ _ h => h) (Or.inl ⟨by rfl, ?_⟩) ?_
          rotate_left 1
          · intro w; go_simp; try with_reducible rfl
          simp only [Act.put, List.setIfInBounds_toArray, List.set_cons_zero, List.set_cons_succ]
          refine wpAny_take (i := 3) (v := ?_) rfl (by kernel_rfl) (by kernel_rfl) (by kernel_rfl) (fun _ _ _ h => h) (Or.inl ⟨by rfl, ?_⟩) ?_
          rotate_left 1
          · intro w; go_simp; try with_reducible rfl
          simp only [Act.put, List.setIfInBounds_toArray, List.set_cons_zero, List.set_cons_succ]
          refine wpAny_take (i := 4) (v := ?_) rfl (by kernel_rfl) (by kernel_rfl) (by kernel_rfl) (fun _ _ _ h => h) (Or.inl ⟨by rfl, ?_⟩) ?_
          rotate_left 1
          · intro w; go_simp; try with_reducible rfl
          simp only [Act.put, List.setIfInBounds_toArray, List.set_cons_zero, List.set_cons_succ]
          refine wpAny_take (i := 7) (v := ?_) rfl (by kernel_rfl) (by kernel_rfl) (by kernel_rfl) (fun _ _ _ h => h) (Or.inl ⟨by rfl, ?_⟩) ?_
          rotate_left 1
          · intro w; go_simp; try with_reducible rfl
          simp only [Act.put, List.setIfInBounds_toArray, List.set_cons_zero, List.set_cons_succ]
          refine wpAny_take (i := 8) (v := ?_) rfl (by kernel_rfl) (by kernel_rfl) (by kernel_rfl) (fun _ _ _ h => h) (Or.inl ⟨by rfl, ?_⟩) ?_
          rotate_left 1
          · intro w; go_simp; try with_reducible rfl
          simp only [Act.put, List.setIfInBounds_toArray, List.set_cons_zero, List.set_cons_succ]
          refine wpAny_take (i := 9) (v := ?_) rfl (by kernel_rfl) (by kernel_rfl) (by kernel_rfl) (fun _ _ _ h => h) (Or.inl ⟨by rfl, ?_⟩) ?_
          rotate_left 1
          · intro w; go_simp; try with_reducible rfl
          simp only [Act.put, List.setIfInBounds_toArray, List.set_cons_zero, List.set_cons_succ]
          obtain ⟨i0, hi, hz0', hz1, hz2⟩ := info_parts Try.info3
          have HI0 := Lib.hid hi
          have Hz0 := Lib.hid hz0'
          have HB1 : Hid (Below w.heap.size w (wv.alloc (.cells #[.int .i64 r] 3)).drew) := Lib.hid (hK.alloc hK.size _).drew
          have HNEW := Lib.hid (World.news_of_block (w := (wv.alloc (.cells #[.int .i64 r] 3)).drew) (heap_alloc_new wv (.cells #[.int .i64 r] 3)))
          have hWs : w.heap.size ≤ wv.heap.size := hK.size
          have hBase : B ≤ (wv.alloc (.cells #[.int .i64 r] 3)).drew.heap.size := Nat.le_trans hB HB1.out.size
          clear hi hz0'
          refine wpAny_ready (rs := [5]) (by kernel_rfl) (by simp) ?_
          refine AllReady.cons (o := _) rfl (fun K hK => ?_) AllReady.nil
          go_simp
          refine hK _ _ ?_
          clear hK K
          try simp only [Act.put, List.setIfInBounds_toArray, List.set_cons_zero, List.set_cons_succ]
          refine wpAny_ready (rs := [6]) (by kernel_rfl) (by simp) ?_
          refine AllReady.cons (o := _) rfl (fun K hK => ?_) AllReady.nil
          refine step_append_grows rfl (.tmp 25) (.tmp 27) 114 rfl 3 i0 (.int .i64 0) 1 8 Try.underlying114' HI0.out Hz0.out hz1 hz2 rfl (by decide) (some ad) cr cr (iV xs) rfl (by simp) HL1.out (fun b' hb' j u hu => by cases hb'; exact hO.out _ HB1.out j u hu) ⟨wv.heap.size, 0, none⟩ 1 1 [.int .i64 r] rfl rfl (fun j u hu => HNEW.out j u hu) (by intro u hu; simp at hu; subst hu; rfl) (by omega) (by unfold maxLen; omega) (by omega) ?_
          intro v1 w2 hown1 hgrow1
          refine hK _ _ ?_
          clear hK K
          have HB2 : Hid (Below w.heap.size w w2) := Lib.hid (HB1.out.grown hgrow1 HB1.out.size (fun k h => by cases h))
          obtain ⟨g, cap, rfl⟩ := ownsRow_succ hown1
          have HW : Hid (w2.ownsRow (wv.alloc (.cells #[.int .i64 r] 3)).drew.heap.size 3 1 (.slice (some ⟨g, 0, none⟩) (cr + 1) cap) (cr + 1) (iV (insM xs r p))) := Lib.hid (by
            have e : iV (insM xs r p) = (iV xs) ++ [.int .i64 r] := by rw [HIx.out]; simp [iV]
            rw [e]; exact hown1)
          have hcp : cr + 1 ≤ cap := (slV_own hown1).1
          have HLn : Hid (cr + 1 = (insM xs r p).length) := Lib.hid (by have := HX.out; rw [HIx.out]; simp; try omega)
          clear hown1 hgrow1 HB1 HNEW
          try simp only [Act.put, List.setIfInBounds_toArray, List.set_cons_zero, List.set_cons_succ]
          refine wpAny_ready (rs := [10]) (by kernel_rfl) (by simp) ?_
          refine AllReady.cons (o := _) rfl (fun K hK => ?_) AllReady.nil
          refine step_append_zero rfl (.tmp 28) (.tmp 31) 114 rfl 3 i0 Try.underlying114' HI0.out _ (cr + 1) cap rfl hcp _ _ rfl ?_
          refine hK _ _ ?_
          clear hK K
          try simp only [Act.put, List.setIfInBounds_toArray, List.set_cons_zero, List.set_cons_succ]
          refine wpAny_ready (rs := [11]) (by kernel_rfl) (by simp) ?_
          refine AllReady.cons (o := _) rfl (fun K hK => ?_) AllReady.nil
          go_simp
          refine hK _ _ ?_
          clear hK K
          refine wpAny_done (by kernel_rfl) ?_ _
          go_wp2
          go_ret
          exact ⟨some ⟨g, 0, none⟩, cap, by rw [← HLn.out]; simp, RdyAt.own HW.out hBase, HB2.out⟩
        · have hne : ¬ cr = k := hck
          go_wp2_with fail
          refine wp_region_any (by kernel_rfl) ?_
          change wpAny _ _ _ _ _ _ _ (World.drew _)
          refine wpAny_take (i := 0) (v := ?_) rfl (by kernel_rfl) (by kernel_rfl) (by kernel_rfl) (fun _ _ _ h => h) (Or.inl ⟨by rfl, ?_⟩) ?_
          rotate_left 1
          · intro w; go_simp; try with_reducible rfl
          simp only [Act.put, List.setIfInBounds_toArray, List.set_cons_zero, List.set_cons_succ]
          refine wpAny_take (i := 1) (v := ?_) rfl (by kernel_rfl) (by kernel_rfl) (by kernel_rfl) (fun _ _ _ h => h) (Or.inl ⟨by rfl, ?_⟩) ?_
          rotate_left 1
          · intro w; go_simp; try with_reducible rfl
          simp only [Act.put, List.setIfInBounds_toArray, List.set_cons_zero, List.set_cons_succ]
          refine wpAny_take (i := 2) (v := ?_) rfl (by kernel_rfl) (by kernel_rfl) (by kernel_rfl) (fun _ _ _ h => h) (Or.inl ⟨by rfl, ?_⟩) ?_
          rotate_left 1
          · intro w; go_simp; try with_reducible rfl
          simp only [Act.put, List.setIfInBounds_toArray, List.set_cons_zero, List.set_cons_succ]
          refine wpAny_take (i := 3) (v := ?_) rfl (by kernel_rfl) (by kernel_rfl) (by kernel_rfl) (fun _ _ _ h => h) (Or.inl ⟨by rfl, ?_⟩) ?_
          rotate_left 1
          · intro w; go_simp; try with_reducible rfl
          simp only [Act.put, List.setIfInBounds_toArray, List.set_cons_zero, List.set_cons_succ]
          refine wpAny_take (i := 4) (v := ?_) rfl (by kernel_rfl) (by kernel_rfl) (by kernel_rfl) (fun _ _ _ h => h) (Or.inl ⟨by rfl, ?_⟩) ?_
          rotate_left 1
          · intro w; go_simp; try with_reducible rfl
          simp only [Act.put, List.setIfInBounds_toArray, List.set_cons_zero, List.set_cons_succ]
          refine wpAny_take (i := 7) (v := ?_) rfl (by kernel_rfl) (by kernel_rfl) (by kernel_rfl) (fun _ _ _ h => h) (Or.inl ⟨by rfl, ?_⟩) ?_
          rotate_left 1
          · intro w; go_simp; try with_reducible rfl
          simp only [Act.put, List.setIfInBounds_toArray, List.set_cons_zero, List.set_cons_succ]
          refine wpAny_take (i := 8) (v := ?_) rfl (by kernel_rfl) (by kernel_rfl) (by kernel_rfl) (fun _ _ _ h => h) (Or.inl ⟨by rfl, ?_⟩) ?_
          rotate_left 1
          · intro w; go_simp; try with_reducible rfl
          simp only [Act.put, List.setIfInBounds_toArray, List.set_cons_zero, List.set_cons_succ]
          refine wpAny_take (i := 9) (v := ?_) rfl (by kernel_rfl) (by kernel_rfl) (by kernel_rfl) (fun _ _ _ h => h) (Or.inl ⟨by rfl, ?_⟩) ?_
          rotate_left 1
          · intro w; go_simp; try with_reducible rfl
          simp only [Act.put, List.setIfInBounds_toArray, List.set_cons_zero, List.set_cons_succ]
          obtain ⟨i0, hi, hz0', hz1, hz2⟩ := info_parts Try.info3
          have HI0 := Lib.hid hi
          have Hz0 := Lib.hid hz0'
          have HB1 : Hid (Below w.heap.size w (wv.alloc (.cells #[.int .i64 r] 3)).drew) := Lib.hid (hK.alloc hK.size _).drew
          have HNEW := Lib.hid (World.news_of_block (w := (wv.alloc (.cells #[.int .i64 r] 3)).drew) (heap_alloc_new wv (.cells #[.int .i64 r] 3)))
          have hWs : w.heap.size ≤ wv.heap.size := hK.size
          have hBase : B ≤ (wv.alloc (.cells #[.int .i64 r] 3)).drew.heap.size := Nat.le_trans hB HB1.out.size
          clear hi hz0'
          refine wpAny_ready (rs := [5]) (by kernel_rfl) (by simp) ?_
          refine AllReady.cons (o := _) rfl (fun K hK => ?_) AllReady.nil
          go_simp
          refine hK _ _ ?_
          clear hK K
          try simp only [Act.put, List.setIfInBounds_toArray, List.set_cons_zero, List.set_cons_succ]
          refine wpAny_ready (rs := [6]) (by kernel_rfl) (by simp) ?_
          refine AllReady.cons (o := _) rfl (fun K hK => ?_) AllReady.nil
          refine step_append_grows rfl (.tmp 25) (.tmp 27) 114 rfl 3 i0 (.int .i64 0) 1 8 Try.underlying114' HI0.out Hz0.out hz1 hz2 rfl (by decide) (some ad) k k (iV xs) rfl (by simp) HL1.out (fun b' hb' j u hu => by cases hb'; exact hO.out _ HB1.out j u hu) ⟨wv.heap.size, 0, none⟩ 1 1 [.int .i64 r] rfl rfl (fun j u hu => HNEW.out j u hu) (by intro u hu; simp at hu; subst hu; rfl) (by omega) (by unfold maxLen; omega) (by omega) ?_
          intro v1 w2 hown1 hgrow1
          refine hK _ _ ?_
          clear hK K
          have HB2 : Hid (Below w.heap.size w w2) := Lib.hid (HB1.out.grown hgrow1 HB1.out.size (fun k h => by cases h))
          obtain ⟨g, cap, rfl⟩ := ownsRow_succ hown1
          have HW : Hid (w2.ownsRow (wv.alloc (.cells #[.int .i64 r] 3)).drew.heap.size 3 1 (.slice (some ⟨g, 0, none⟩) (k + 1) cap) (k + 1) (iV (insM xs r p))) := Lib.hid (by
            have e : iV (insM xs r p) = (iV xs) ++ [.int .i64 r] := by rw [HIx.out]; simp [iV]
            rw [e]; exact hown1)
          have hcp : k + 1 ≤ cap := (slV_own hown1).1
          have HLn : Hid (k + 1 = (insM xs r p).length) := Lib.hid (by have := HX.out; rw [HIx.out]; simp; try omega)
          clear hown1 hgrow1 HB1 HNEW
          try simp only [Act.put, List.setIfInBounds_toArray, List.set_cons_zero, List.set_cons_succ]
          refine wpAny_ready (rs := [10]) (by kernel_rfl) (by simp) ?_
          refine AllReady.cons (o := _) rfl (fun K hK => ?_) AllReady.nil
          refine step_append_zero rfl (.tmp 28) (.tmp 31) 114 rfl 3 i0 Try.underlying114' HI0.out _ (k + 1) cap rfl hcp _ _ rfl ?_
          refine hK _ _ ?_
          clear hK K
          try simp only [Act.put, List.setIfInBounds_toArray, List.set_cons_zero, List.set_cons_succ]
          refine wpAny_ready (rs := [11]) (by kernel_rfl) (by simp) ?_
          refine AllReady.cons (o := _) rfl (fun K hK => ?_) AllReady.nil
          go_simp
          refine hK _ _ ?_
          clear hK K
          refine wpAny_done (by kernel_rfl) ?_ _
          go_wp2
          go_ret
          exact ⟨some ⟨g, 0, none⟩, cap, by rw [← HLn.out]; simp, RdyAt.own HW.out hBase, HB2.out⟩
end Go.Proofs.Ytggikbcgijmhbaa
