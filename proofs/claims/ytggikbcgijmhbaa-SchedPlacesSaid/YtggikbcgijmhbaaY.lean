/- WHAT IS PROVED: a copy of elements of three cells, as a law; slices.Repeat of one element. CONDITIONS: one to four copies. -/
import Derived.Laws.CopyOwn
import Derived.Deep.RegionHeld
import Derived.Test.YtggikbcgijmhbaaM
import Derived.Test.YtggikbcgijmhbaaSh
set_option linter.unusedSimpArgs false
set_option linter.unusedVariables false
namespace Go.Proofs.Ytggikbcgijmhbaa
open Go Go.RowKit Go.QrBits Go.QrMem
attribute [local go_sem] reg_cell reg_frozen reg_setCell reg_lt reg_lt_add reg_drew reg_of_drew
theorem run_copy3 {P : Program} (w : World) (dT sT ty elem : TypeId) (g o dLen dCap : Nat) (a : Addr) (sLen sCap : Nat) (cur : Array Value) (t : TypeId) (cs : List Value)
    (hu : P.underlying dT = some (.slice elem)) (hs : (P.info? elem).map (·.size) = some 3)
    (hg : w.heap[g]? = some (.cells cur t (0, 0))) (hn : cs.length = Nat.min sLen dLen * 3)
    (hsrc : ∀ j v, cs[j]? = some v → w.cell? (a.add j) = some v) (hfit : o + cs.length ≤ cur.size) (h1 : ∀ v ∈ cs, v.oneCell' = true) :
    (Builtin.copy_ #[dT, sT] ty #[.slice (some ⟨g, o, none⟩) dLen dCap, .slice (some a) sLen sCap]).run P w =
      .ok (goInt (Nat.min sLen dLen : Nat)) (w.setRow g (cur.toList.take o ++ cs ++ cur.toList.drop (o + cs.length)).toArray) := by
  have hl := run_loadCells_list (P := P) w a cs hsrc
  have hst := run_storeCells_at P g o t cs 0 cur w hg (by simpa using hfit) h1
  cases hq : P.info? elem with
  | none => simp [hq] at hs
  | some i =>
    have hi : i.size = 3 := by simpa [hq] using hs
    simp [Builtin.copy_, run_underlying hu, Builtin.lenOf, Builtin.firstCells, sizeOf, typeInfo, hq, hi, ← hn, hl, hst]
theorem step_copy3 {P : Program} {w : World} {o : Oper} {a : Act} {K : Act → World → Prop} {Q : Exit → Act → World → Prop} (d s : Operand) (dT sT : TypeId)
    (ho : o.op = .call { callee := .builtin .copy, args := #[d, s], argTypes := #[dT, sT] }) (elem : TypeId) (hu : P.underlying dT = some (.slice elem)) (hsz : (P.info? elem).map (·.size) = some 3)
    (g off dLen dCap : Nat) (ad : Addr) (sLen sCap : Nat) (hd : a.eval d = .slice (some ⟨g, off, none⟩) dLen dCap) (hs : a.eval s = .slice (some ad) sLen sCap)
    (cur : Array Value) (t : TypeId) (hg : w.heap[g]? = some (.cells cur t (0, 0))) (cs : List Value) (hn : cs.length = Nat.min sLen dLen * 3)
    (hsrc : ∀ j v, cs[j]? = some v → w.cell? (ad.add j) = some v) (hfit : off + cs.length ≤ cur.size) (h1 : ∀ v ∈ cs, v.oneCell' = true)
    (h : K (a.put o.dst (goInt (Nat.min sLen dLen : Nat))) (w.setRow g (cur.toList.take off ++ cs ++ cur.toList.drop (off + cs.length)).toArray)) : Oper.wp P o a w K Q := by
  have hrun := run_copy3 (P := P) w dT sT o.type elem g off dLen dCap ad sLen sCap cur t cs hu hsz hg hn hsrc hfit h1
  unfold Oper.wp
  simp [execOp, ho, resolve, invoke, builtin, hd, hs, hrun, Result.andThen]
  rw [List.append_assoc] at h
  exact h
theorem wpList_copy3 {P : Program} {w : World} {ops : Array Oper} {rest : List Oper} {o : Oper} {a : Act} {Q : Exit → Act → World → Prop} (hgd : o.guard = none) (d s : Operand) (dT sT : TypeId)
    (ho : o.op = .call { callee := .builtin .copy, args := #[d, s], argTypes := #[dT, sT] }) (elem : TypeId) (hu : P.underlying dT = some (.slice elem)) (hsz : (P.info? elem).map (·.size) = some 3)
    (g off dLen dCap : Nat) (ad : Addr) (sLen sCap : Nat) (hd : a.eval d = .slice (some ⟨g, off, none⟩) dLen dCap) (hs : a.eval s = .slice (some ad) sLen sCap)
    (cur : Array Value) (t : TypeId) (hg : w.heap[g]? = some (.cells cur t (0, 0))) (cs : List Value) (hn : cs.length = Nat.min sLen dLen * 3)
    (hsrc : ∀ j v, cs[j]? = some v → w.cell? (ad.add j) = some v) (hfit : off + cs.length ≤ cur.size) (h1 : ∀ v ∈ cs, v.oneCell' = true)
    (h : ∀ m w', m = Nat.min sLen dLen → w' = w.setRow g (cur.toList.take off ++ cs ++ cur.toList.drop (off + cs.length)).toArray → wpList P ops Q rest (a.put o.dst (goInt (m : Nat))) w') : wpList P ops Q (o :: rest) a w := by
  refine wpList_plain hgd fun K hK => ?_
  exact step_copy3 d s dT sT ho elem hu hsz g off dLen dCap ad sLen sCap hd hs cur t hg cs hn hsrc hfit h1 (hK _ _ (h _ _ rfl rfl))
/-- The first 3 p cells are copies of u. -/
def Reps (u : List Value) (n p : Nat) (cur : List Value) : Prop := cur.length = 3 * n ∧ ∀ j, j < 3 * p → cur[j]? = u[j % 3]?
theorem Reps.step {u : List Value} {n p m : Nat} {cur : List Value} (h : Reps u n p cur) (hm : m ≤ p) (hpm : p + m ≤ n) : Reps u n (p + m) (cur.take (3 * p) ++ cur.take (3 * m) ++ cur.drop (3 * p + (cur.take (3 * m)).length)) := by
  obtain ⟨h1, h2⟩ := h
  refine ⟨by simp; omega, fun j hj => ?_⟩
  rcases Nat.lt_or_ge j (3 * p) with hl | hl
  · rw [List.append_assoc, List.getElem?_append_left (by simp; omega), List.getElem?_take_of_lt hl]
    exact h2 j hl
  · rw [List.append_assoc, List.getElem?_append_right (by simp; omega), List.getElem?_append_left (by simp; omega)]
    have e : j - (cur.take (3 * p)).length = j - 3 * p := by simp; omega
    rw [e, List.getElem?_take_of_lt (by omega), h2 _ (by omega)]
    congr 1
    omega
theorem Reps.first {u : List Value} {n : Nat} {cur : List Value} (hc : cur.length = 3 * n) (hu : u.length = 3) (hn : 1 ≤ n) : Reps u n 1 (cur.take 0 ++ u ++ cur.drop (0 + u.length)) := by
  refine ⟨by simp [hu]; omega, fun j hj => ?_⟩
  simp only [List.take_zero, List.nil_append]
  rw [List.getElem?_append_left (by omega)]
  congr 1
  omega
theorem Reps.one {u : List Value} {n p : Nat} {cur : List Value} (h : Reps u n p cur) (hu : u.length = 3) (h1 : ∀ v ∈ u, v.oneCell' = true) (m : Nat) (hm : m ≤ p) : ∀ v ∈ cur.take (3 * m), v.oneCell' = true := by
  intro v hv
  obtain ⟨j, hj⟩ := List.getElem?_of_mem hv
  have hl := (List.getElem?_eq_some_iff.1 hj).1
  simp at hl
  rw [List.getElem?_take_of_lt (by omega), h.2 j (by omega)] at hj
  exact h1 v (List.mem_of_getElem? hj)
set_option maxHeartbeats 4000000 in
set_option maxRecDepth 100000 in
theorem repeat_c (ad : Addr) (c n : Nat) (u : List Value) (w : World) (hu : u.length = 3) (h1 : ∀ v ∈ u, v.oneCell' = true) (hsrc : ∀ j v, u[j]? = some v → w.cell? (ad.add j) = some v) (hn1 : 1 ≤ n) (hn4 : n ≤ 4) (had : ad.block < w.heap.size) :
    Calls Try.prog 32 #[.slice (some ad) 1 c, .int .i64 n] w fun e w' => e = .returned (.slice (some ⟨w.heap.size, 0, none⟩) n n) ∧ (∃ cur, w'.heap[w.heap.size]? = some (.cells cur.toArray 47 (0, 0)) ∧ Reps u n n cur) ∧ Below w.heap.size w w' := by
  obtain ⟨i0, hi, hz0, hz1, hz2⟩ := info_parts Try.info47
  have hszi : (Try.prog.info? 47).map (·.size) = some 3 := by rw [hi]; simp [hz1]
  have k0 : (0 : Int) ≤ (n : Int) := Int.natCast_nonneg _
  have hwu : IntKind.u64.wrap (n : Int) = n := by simp [IntKind.wrap, IntKind.signed, IntKind.bits]; omega
  have hwi : IntKind.i64.wrap (n : Int) = n := by simp [IntKind.wrap, IntKind.signed, IntKind.bits]; omega
  have hng : ¬ (n : Int) < 0 := by omega
  have hbg : ¬ (9223372036854775807 : Int) < (n : Int) := by omega
  have hmk := fun (w : World) => run_makeSlice (P := Try.prog) w 22 47 i0 (.agg #[.int .i64 0, .int .i64 0, .slice none 0 0]) Try.underlying22 hi hz0 .i64 .i64 n n (by omega) (Int.le_refl _) (by rw [hz1]; simp; omega) (by rw [hz2]; omega) (by omega)
  simp only [Int.toNat_natCast, hz1] at hmk
  have hmul := fun (w : World) => Try.bits_Mul 1 n (by decide) (Nat.lt_of_le_of_lt hn4 (by decide)) w
  have e1 : ((1 * n / 18446744073709551616 : Nat) : Int) = 0 := by rw [Nat.div_eq_of_lt (by omega)]; rfl
  have e2 : ((1 * n % 18446744073709551616 : Nat) : Int) = n := by rw [Nat.mod_eq_of_lt (by omega), Nat.one_mul]
  have hmul2 : ∀ w : World, Calls Try.prog 61 #[.int .u64 1, .int .u64 n] w fun e w' => e = .returned (.tuple #[.int .u64 0, .int .u64 n]) ∧ w' = w := fun w => by
    have h := hmul w
    generalize ((1 * n / 18446744073709551616 : Nat) : Int) = x1 at *
    generalize ((1 * n % 18446744073709551616 : Nat) : Int) = x2 at *
    subst e1 e2
    exact h
  have hlen : (madeCells (Value.cells (.agg #[.int .i64 0, .int .i64 0, .slice none 0 0])) (n * 3)).toList.length = 3 * n := by simp [size_madeCells]; omega
  generalize madeCells (Value.cells (.agg #[.int .i64 0, .int .i64 0, .slice none 0 0])) (n * 3) = Z at *
  have hcp := run_copy3 (P := Try.prog) (w.alloc (.cells Z 47)) 22 22 3 47 w.heap.size 0 n n ad 1 c Z 47 u Try.underlying22 hszi (heap_alloc_new w _) (by show u.length = min 1 n * 3; omega) (fun j v hj => by
    have e : (ad.add j).block = ad.block := by unfold Addr.add; split <;> rfl
    exact ((b_alloc (o := .cells Z 47) (Below.refl w.heap.size w)).cell (p := ad.add j) (by rw [e]; exact had)).trans (hsrc j v hj)) (by simp at hlen ⊢; omega) h1
  have hm1 : Nat.min 1 n = 1 := Nat.min_eq_left hn1
  rw [hm1] at hcp
  obtain ⟨w2, hw2⟩ : ∃ w2, (w.alloc (.cells Z 47)).setRow w.heap.size (Z.toList.take 0 ++ u ++ Z.toList.drop (0 + u.length)).toArray = w2 := ⟨_, rfl⟩
  rw [hw2] at hcp
  have hrow2 : w2.heap[w.heap.size]? = some (.cells (Z.toList.take 0 ++ u ++ Z.toList.drop (0 + u.length)).toArray 47 (0, 0)) := by rw [← hw2]; exact setRow_heap _ _ _ _ _ _ (heap_alloc_new w _)
  have hb2 : Below w.heap.size w w2 := by rw [← hw2]; exact below_setRow (b_alloc (Below.refl _ _)) (Nat.le_refl _) _
  have HF : Hid (∃ cur : List Value, w2.heap[w.heap.size]? = some (.cells cur.toArray 47 (0, 0)) ∧ Reps u n 1 cur) := Lib.hid ⟨_, hrow2, Reps.first hlen hu hn1⟩
  have HB2 := Lib.hid hb2
  clear hm1 hw2 hrow2 hb2
  have HMUL := Lib.hid hmul2
  have H1 := Lib.hid h1
  have HL := Lib.hid hlen
  have HU := Lib.hid hu
  have HSZ := Lib.hid hszi
  have HN1 := Lib.hid hn1
  have HN4 := Lib.hid hn4
  clear hszi hmul hmul2 hsrc h1 hlen hi hz0 hz1 hz2 e1 e2 hu hn1 hn4 had
  go_enter Try.func32, Try.ntmps32
  go_wp2_with fail
  refine (HMUL.out _).mono ?_
  rintro y w1 ⟨rfl, hw1⟩
  rw [hw1]
  clear hw1 w1
  go_wp2_with fail
  clear hmk hcp
  go_loopw [8] (fun i wr => ∃ (p : Nat) (wv : World) (cur : List Value), wv = wr ∧ 1 ≤ p ∧ p ≤ n ∧ i = .int .i64 p ∧ wv.heap[w.heap.size]? = some (.cells cur.toArray 47 (0, 0)) ∧ Reps u n p cur ∧ Below w.heap.size w wv) (fun i _ => n - (intOf i).toNat)
  case atStart =>
    obtain ⟨cur, h2, h3⟩ := HF.out
    exact ⟨1, _, cur, rfl, Nat.le_refl _, HN1.out, rfl, h2, h3, HB2.out⟩
  case round =>
    obtain ⟨p, wv, cur, hw, hp1, hpn, rfl, hrow, hreps, hbw⟩ := hrel
    subst hw
    have HROW := Lib.hid hrow
    have HR := Lib.hid hreps
    have HBW := Lib.hid hbw
    have HP1 := Lib.hid hp1
    have HPN := Lib.hid hpn
    have p0 : (0 : Int) ≤ (p : Int) := Int.natCast_nonneg _
    clear hrow hreps hbw HF HB2
    by_cases hlt : p < n
    · have hli : (p : Int) < (n : Int) := by omega
      have hle : p ≤ n := hpn
      have hnp : ¬ n = p := by omega
      have hng2 : ¬ n < p := by omega
      have hmp : Nat.min p (n - p) ≤ p := Nat.min_le_left _ _
      have hmq : Nat.min p (n - p) ≤ n - p := Nat.min_le_right _ _
      have hm0 : 1 ≤ Nat.min p (n - p) := by show 1 ≤ min p (n - p); omega
      obtain ⟨m, hm⟩ : ∃ m, Nat.min p (n - p) = m := ⟨_, rfl⟩
      rw [hm] at hmp hmq hm0
      have hwm : IntKind.i64.wrap ((p : Int) + (m : Int)) = (p : Int) + (m : Int) := by simp [IntKind.wrap, IntKind.signed, IntKind.bits]; omega
      have HM := Lib.hid (And.intro hmp (And.intro hmq hm0))
      have HMM := Lib.hid hm
      clear hp1 hpn hmp hmq hm0 hm
      go_wp2_with fail
      refine wp_region_any (by kernel_rfl) (wpAny_of_held (S := fun W' : World => True) _ _ _ _ ?_)
      change wpAnyH _ _ _ _ _ _ _ _ (World.drew _)
      obtain ⟨w0, hw0⟩ : ∃ w0, wv.drew = w0 := ⟨_, rfl⟩
      have hb0 : Below wv.heap.size wv w0 := by rw [← hw0]; exact (Below.refl _ _).drew
      have HR0 := Lib.hid ((hb0.block _ (Array.getElem?_eq_some_iff.1 HROW.out).1).trans HROW.out)
      have HBW0 := Lib.hid (Below.tail HBW.out hb0)
      rw [hw0]
      clear hw0 hb0 HROW HBW
      refine wpAnyH_take (i := 0) (oi := _) (v := .int .i64 p) rfl (by kernel_rfl) (by kernel_rfl) (by kernel_rfl) (fun _ _ _ h => h) (Or.inl ⟨by rfl, ?_⟩) trivial ?_
      · intro W' hW'
        go_simp
      try simp only [Act.put, List.setIfInBounds_toArray, List.set_cons_zero, List.set_cons_succ]
      refine wpAnyH_take (i := 1) (oi := _) (v := .slice (some ⟨w.heap.size, 0, none⟩) n n) rfl (by kernel_rfl) (by kernel_rfl) (by kernel_rfl) (fun _ _ _ h => h) (Or.inl ⟨by rfl, ?_⟩) trivial ?_
      · intro W' hW'
        go_simp
      try simp only [Act.put, List.setIfInBounds_toArray, List.set_cons_zero, List.set_cons_succ]
      refine wpAnyH_take (i := 2) (oi := _) (v := .int .i64 p) rfl (by kernel_rfl) (by kernel_rfl) (by kernel_rfl) (fun _ _ _ h => h) (Or.inl ⟨by rfl, ?_⟩) trivial ?_
      · intro W' hW'
        go_simp
      try simp only [Act.put, List.setIfInBounds_toArray, List.set_cons_zero, List.set_cons_succ]
      refine wpAnyH_take (i := 4) (oi := _) (v := .slice (some ⟨w.heap.size, 0, none⟩) n n) rfl (by kernel_rfl) (by kernel_rfl) (by kernel_rfl) (fun _ _ _ h => h) (Or.inl ⟨by rfl, ?_⟩) trivial ?_
      · intro W' hW'
        go_simp
      try simp only [Act.put, List.setIfInBounds_toArray, List.set_cons_zero, List.set_cons_succ]
      refine wpAnyH_take (i := 5) (oi := _) (v := .int .i64 p) rfl (by kernel_rfl) (by kernel_rfl) (by kernel_rfl) (fun _ _ _ h => h) (Or.inl ⟨by rfl, ?_⟩) trivial ?_
      · intro W' hW'
        go_simp
      try simp only [Act.put, List.setIfInBounds_toArray, List.set_cons_zero, List.set_cons_succ]
      refine wpAnyH_take (i := 3) (oi := _) (v := .slice (some ⟨w.heap.size, p * 3, none⟩) (n - p) (n - p)) rfl (by kernel_rfl) (by kernel_rfl) (by kernel_rfl) (fun _ _ _ h => h) (Or.inl ⟨by rfl, ?_⟩) trivial ?_
      · intro W' hW'
        go_simp
        first | rw [if_pos hle, if_neg hnp] | skip
      try simp only [Act.put, List.setIfInBounds_toArray, List.set_cons_zero, List.set_cons_succ]
      refine wpAnyH_take (i := 6) (oi := _) (v := .slice (some ⟨w.heap.size, 0, none⟩) p n) rfl (by kernel_rfl) (by kernel_rfl) (by kernel_rfl) (fun _ _ _ h => h) (Or.inl ⟨by rfl, ?_⟩) trivial ?_
      · intro W' hW'
        go_simp
        first | (intro h; exact absurd h hng2) | skip
      try simp only [Act.put, List.setIfInBounds_toArray, List.set_cons_zero, List.set_cons_succ]
      have hrun := run_copy3 (P := Try.prog) w0 22 22 3 47 w.heap.size (p * 3) (n - p) (n - p) ⟨w.heap.size, 0, none⟩ p n cur.toArray 47 (cur.take (3 * m)) Try.underlying22 HSZ.out HR0.out (by have := HR.out.1; have := HM.out; rw [HMM.out]; simp; omega) (fun j v hj => by
        have hl := (List.getElem?_eq_some_iff.1 hj).1
        simp at hl
        rw [List.getElem?_take_of_lt (by omega)] at hj
        exact World.news_of_block HR0.out j v (by simpa using hj)) (by have := HR.out.1; have := HM.out; simp; omega) (HR.out.one HU.out H1.out _ HM.out.1)
      rw [HMM.out] at hrun
      obtain ⟨w3, hw3⟩ : ∃ w3, w0.setRow w.heap.size (cur.toArray.toList.take (p * 3) ++ cur.take (3 * m) ++ cur.toArray.toList.drop (p * 3 + (cur.take (3 * m)).length)).toArray = w3 := ⟨_, rfl⟩
      rw [hw3] at hrun
      have HROW3 := Lib.hid (show w3.heap[w.heap.size]? = some (.cells (cur.take (3 * p) ++ cur.take (3 * m) ++ cur.drop (3 * p + (cur.take (3 * m)).length)).toArray 47 (0, 0)) by rw [← hw3, Nat.mul_comm 3 p]; exact setRow_heap _ _ _ _ _ _ HR0.out)
      have HBW3 := Lib.hid (show Below w.heap.size w w3 by rw [← hw3]; exact below_setRow HBW0.out (Nat.le_refl _) _)
      have HR3 := Lib.hid (HR.out.step HM.out.1 (by have := HM.out.2.1; omega))
      clear hw3
      refine wpAnyH_ready (rs := [7]) (by kernel_rfl) (by simp) ?_
      refine AllReadyH.cons (o := _) rfl (fun K hK => ?_) AllReadyH.nil
      go_simp
      refine hK.out _ _ trivial (fun hHeld => ?_)
      clear hK K hHeld hrun
      try simp only [Act.put, List.setIfInBounds_toArray, List.set_cons_zero, List.set_cons_succ]
      refine wpAnyH_take (i := 8) (oi := _) (v := .int .i64 ((p : Int) + (m : Int))) rfl (by kernel_rfl) (by kernel_rfl) (by kernel_rfl) (fun _ _ _ h => h) (Or.inl ⟨by rfl, ?_⟩) trivial ?_
      · intro W' hW'
        go_simp
      try simp only [Act.put, List.setIfInBounds_toArray, List.set_cons_zero, List.set_cons_succ]
      refine wpAnyH_ready (rs := [9]) (by kernel_rfl) (by simp) ?_
      refine AllReadyH.cons (o := _) rfl (fun K hK => ?_) AllReadyH.nil
      go_simp
      refine hK.out _ _ trivial (fun hHeld => ?_)
      clear hK K hHeld
      refine wpAnyH_done (by kernel_rfl) ?_ _
      go_wp2_with fail
      go_roundw
      case rel => exact ⟨p + m, _, _, rfl, by have := HP1.out; omega, by have := HM.out.2.1; omega, by simp, HROW3.out, HR3.out, HBW3.out⟩
      case measure => have := HM.out.2.2; simp only [intOf]; omega
    · have hpe : p = n := by omega
      subst hpe
      go_wp2_with fail
      exact bodyPost_ret (v := .slice (some ⟨w.heap.size, 0, none⟩) p p) (by simp [results, Try.results32, go_sem]) rfl ⟨rfl, ⟨cur, HROW.out, HR.out⟩, HBW.out⟩
end Go.Proofs.Ytggikbcgijmhbaa
