/- WHAT IS PROVED: the iterator of mem.visit hands over the bytes ahead of the fault, and panics with the fault. CONDITIONS: a valid space; at most 4096 bytes. -/
import Derived.Test.YtdbcbmdekdfdoaaPa
import Derived.RangeFuncBound
import Derived.RangeFuncCalls
import Derived.Shelf.RegionOpen
import Derived.OwnWalkIn
import Derived.TacticsInMore
import Derived.LoopNIn
import Derived.LoopIn
namespace Go.Proofs.Ytdbcbmdekdfdoaa
open Go Go.RowKit Go.QrBits Go.QrMem
attribute [local go_sem] Oper.semAt_some

/-- May the byte at an address be accessed? -/
def good (perm bytes : List Int) (need x : Int) : Bool :=
  decide (0 ≤ x) && decide (x < bytes.length) && (match perm[x.toNat / 64]? with | some q => mayB q need | none => false)
/-- How many of the first n stand. -/
def lead (f : Nat → Bool) : Nat → Nat
  | 0 => 0
  | n + 1 => if lead f n < n then lead f n else if f n then n + 1 else n
theorem lead_le (f : Nat → Bool) : ∀ n, lead f n ≤ n
  | 0 => Nat.le_refl _
  | n + 1 => by have := lead_le f n; simp only [lead]; split <;> (try split) <;> omega
theorem lead_all (f : Nat → Bool) : ∀ n j, j < lead f n → f j = true
  | 0, j, h => by simp [lead] at h
  | n + 1, j, h => by
    have h1 := lead_le f n
    simp only [lead] at h
    split at h
    · exact lead_all f n j h
    · split at h
      · by_cases e : j = n
        · subst e; assumption
        · exact lead_all f n j (by omega)
      · exact lead_all f n j (by omega)
theorem lead_stop (f : Nat → Bool) : ∀ n, lead f n < n → f (lead f n) = false
  | 0, h => by simp at h
  | n + 1, h => by
    have h1 := lead_le f n
    simp only [lead] at h ⊢
    by_cases hl : lead f n < n
    · rw [if_pos hl]; exact lead_stop f n hl
    · rw [if_neg hl] at h ⊢
      by_cases hf : f n = true
      · rw [if_pos hf] at h; omega
      · rw [if_neg hf]; simpa using hf
theorem lead_uniq (f : Nat → Bool) (n k : Nat) (h1 : k ≤ n) (h2 : ∀ j, j < k → f j = true) (h3 : k < n → f k = false) : lead f n = k := by
  rcases Nat.lt_trichotomy (lead f n) k with h | h | h
  · have := lead_stop f n (by omega); rw [h2 _ h] at this; cases this
  · exact h
  · have h4 := lead_all f n k h
    have := lead_le f n
    rw [h3 (by omega)] at h4; cases h4
/-- The number of bytes of an access that are ahead of its fault. -/
def kN (perm bytes : List Int) (t need : Int) (n : Nat) : Nat := lead (fun i => good perm bytes need (t + i)) n
/-- The kind of the fault at an address that may not be accessed. -/
def kd (bytes : List Int) (need x : Int) : Int := if 0 ≤ x ∧ x < bytes.length then kO need else 1

/-- What the iterator has captured, and what it reads. -/
structure VisIn (pn pt ps pq : Nat) (n t need : Int) (a : Option Addr) (c : Nat) (a2 : Option Addr) (c2 : Nat) (perm bytes : List Int) (W : World) : Prop where
  n1 : W.cell? ⟨pn, 0, none⟩ = some (.int .i64 n)
  t1 : W.cell? ⟨pt, 0, none⟩ = some (.int .i64 t)
  s1 : W.cell? ⟨ps, 0, none⟩ = some (.slice a perm.length c)
  s2 : W.cell? ⟨ps, 1, none⟩ = some (.slice a2 bytes.length c2)
  q1 : W.cell? ⟨pq, 0, none⟩ = some (.int .i64 need)
  sp : SpIn W a c a2 c2 perm bytes

/-- How the iterator ends. -/
def visE (perm bytes : List Int) (t need : Int) (n : Nat) (e : Ending) : Prop :=
  (kN perm bytes t need n = n ∧ ∃ v, e = .returned v) ∨ (kN perm bytes t need n < n ∧ e = died (kd bytes need (t + kN perm bytes t need n)) (t + kN perm bytes t need n))

/-- The block of the iterator's own holds the page of the last address. -/
def PageIs (B : Nat) (bytes : List Int) (t : Int) (i : Nat) (W : World) : Prop :=
  ∃ cs : List Value, W.heap[B]? = some (.cells cs.toArray 122 (0, 0)) ∧ cs.length = 64 ∧ ∀ j : Nat, i = j + 1 → cs = bV (pg bytes ((t + j).toNat / 64))
def visEnc (bytes : List Int) (t : Int) (i : Nat) : Array Value := #[.int .i64 (t + i), .int .u8 (bytes[(t + i).toNat]?.getD 0)]

theorem good_out {perm bytes : List Int} {need x : Int} (h : good perm bytes need x = true) : 0 ≤ x ∧ x < bytes.length ∧ ∃ (p : Nat) (q : Int), x.toNat / 64 = p ∧ perm[p]? = some q ∧ mayB q need = true := by
  simp only [good, Bool.and_eq_true, decide_eq_true_eq] at h
  obtain ⟨⟨h1, h2⟩, h3⟩ := h
  cases hq : perm[x.toNat / 64]? with
  | none => rw [hq] at h3; cases h3
  | some q => rw [hq] at h3; exact ⟨h1, h2, _, q, rfl, hq, h3⟩
theorem good_lt {perm bytes : List Int} {t need : Int} {n i : Nat} (hi : i ≤ kN perm bytes t need n) (hin : i < n) (hg : good perm bytes need (t + i) = true) : i < kN perm bytes t need n := by
  rcases Nat.lt_or_ge i (kN perm bytes t need n) with h | h
  · exact h
  · have e : i = kN perm bytes t need n := by omega
    have := lead_stop (fun i => good perm bytes need (t + i)) n (by show kN perm bytes t need n < n; omega)
    have e2 : lead (fun i => good perm bytes need (t + i)) n = i := e.symm
    simp only [e2] at this
    rw [hg] at this; cases this
theorem wpListIn_store_row {F : Fence} {k : Nat} {P : Program} {ops : Array Oper} {rest : List Oper} {o : Oper} {a : Act} {w : World} {Q : Exit → Act → World → Prop} (hgd : o.guard = none) (ty : TypeId) (x y : Operand) (ho : o.op = .store ty x y)
    (g : Nat) (cells : Array Value) (hx : a.eval x = .pointer (some ⟨g, 0, none⟩)) (hy : a.eval y = .agg cells)
    (t : TypeId) (old : Array Value) (hg : w.heap[g]? = some (.cells old t (0, 0))) (hi : (P.info? ty).map (·.size) = some cells.size)
    (hold : old.size = cells.size) (h1 : cells.all (·.oneCell') = true)
    (h : wpListIn F k P ops Q rest (a.put o.dst undef) (w.setRow g cells)) : wpListIn F k P ops Q (o :: rest) a w := by
  refine wpListIn_plain hgd fun K hK => ?_
  unfold Oper.wpIn
  refine ⟨?_, ?_⟩
  · simp [Oper.about, ho]
  · rw [Oper.semAt_plain F _ _ (by rw [ho]; intro c hc'; cases hc')]
    simp only [execOp, ho, hx, hy, Instr.storeAt, Instr.sureAddr, Sem.run_bind, Sem.run_pure, Result.andThen_ok, run_storeVar_row w g t ty old cells hg hi hold h1]
    exact hK _ _ h

theorem good_not {perm bytes : List Int} {need x : Int} (hck : chk perm bytes.length = true) (h : good perm bytes need x = false) : (x < 0 ∨ bytes.length ≤ x) ∨ (0 ≤ x ∧ x < bytes.length ∧ ∃ (p : Nat) (q : Int), x.toNat / 64 = p ∧ perm[p]? = some q ∧ mayB q need = false) := by
  by_cases h1 : 0 ≤ x
  · by_cases h2 : x < bytes.length
    · right
      refine ⟨h1, h2, ?_⟩
      have h3 : x.toNat / 64 < perm.length := by have := chk_len4 hck; omega
      refine ⟨_, perm[x.toNat / 64], rfl, by simp [h3], ?_⟩
      simp only [good, h1, h2, decide_true, Bool.true_and] at h
      rw [List.getElem?_eq_getElem h3] at h
      exact h
    · left; right; omega
  · left; left; omega
/-- Within a page, what stands goes on. -/
theorem good_same {perm bytes : List Int} {need x : Int} (hck : chk perm bytes.length = true) (h : good perm bytes need x = true) (hm : ¬ (x + 1) % 64 = 0) : good perm bytes need (x + 1) = true := by
  obtain ⟨x0, x1, p, q, hp, hq, hmay⟩ := good_out h
  have hl := chk_len4 hck
  have e : (x + 1).toNat / 64 = p := by omega
  have hb : x + 1 < bytes.length := by omega
  simp only [good, Bool.and_eq_true, decide_eq_true_eq]
  refine ⟨⟨by omega, hb⟩, ?_⟩
  rw [e, hq]; exact hmay
theorem pageAt_yx (a : Option Addr) (c : Nat) (a2 : Option Addr) (c2 : Nat) (perm bytes : List Int) (x : Int) (p : Nat) (q need : Int) (w : World) (hs : SpIn w a c a2 c2 perm bytes) (hck : chk perm bytes.length = true) (x0 : 0 ≤ x) (x1 : x < bytes.length) (hp : x.toNat / 64 = p) (hq : perm[p]? = some q) (hmay : mayB q need = true) :
    Calls Try.prog 79 #[.agg #[.slice a perm.length c, .slice a2 bytes.length c2], .int .i64 x, .int .i64 need] w fun e w' => e = .returned (.agg (bV (pg bytes p)).toArray) ∧ Below w.heap.size w w' := by
  obtain ⟨m, rfl⟩ := Int.eq_ofNat_of_zero_le x0
  exact pageAt_y a c a2 c2 perm bytes m p q need w hs hck (by omega) (by simpa using hp) hq hmay
/-- The panic at an address that may not be accessed. -/
theorem pageAt_bad (a : Option Addr) (c : Nat) (a2 : Option Addr) (c2 : Nat) (perm bytes : List Int) (x need : Int) (w : World) (hs : SpIn w a c a2 c2 perm bytes) (hck : chk perm bytes.length = true) (hg : good perm bytes need x = false) :
    Calls Try.prog 79 #[.agg #[.slice a perm.length c, .slice a2 bytes.length c2], .int .i64 x, .int .i64 need] w fun e w' => e = died (kd bytes need x) x ∧ Below w.heap.size w w' := by
  have hl := chk_le hck
  rcases good_not hck hg with h | ⟨x0, x1, p, q, hp, hq, hmay⟩
  · have e : kd bytes need x = 1 := by unfold kd; rw [if_neg (by omega)]
    rw [e]; exact pageAt_out a perm.length c a2 bytes.length c2 x need w h hl.2
  · have e : kd bytes need x = kO need := by unfold kd; rw [if_pos ⟨x0, x1⟩]
    rw [e]
    obtain ⟨m, rfl⟩ := Int.eq_ofNat_of_zero_le x0
    exact pageAt_n a c a2 c2 perm bytes m p q need w hs (by omega) hl.2 (by simpa using hp) hq hmay
theorem turned_setRow {S T : Nat} {W W' : World} (h : Turned S T W W') {g : Nat} (cs : Array Value) (h1 : S ≤ g) (h2 : g < T) : Turned S T W (W'.setRow g cs) :=
  h.trans ⟨rfl, rfl, rfl, by simp, fun k _ ho => setRow_other _ g k cs (by omega)⟩
theorem kn_bad {perm bytes : List Int} {t need : Int} {n i : Nat} (hi : i ≤ kN perm bytes t need n) (hg : good perm bytes need (t + i) = false) : kN perm bytes t need n = i := by
  rcases Nat.lt_or_ge i (kN perm bytes t need n) with h | h
  · have h1 : good perm bytes need (t + i) = true := lead_all (fun i => good perm bytes need (t + i)) n i h
    rw [hg] at h1; cases h1
  · omega
theorem bad_edge {perm bytes : List Int} {t need : Int} {n i : Nat} (hck : chk perm bytes.length = true) (hi : i ≤ kN perm bytes t need n) (hg : good perm bytes need (t + i) = false) : i = 0 ∨ (0 < i ∧ 0 ≤ t + (i : Int) ∧ t + (i : Int) ≤ 4096 ∧ (t + (i : Int)) % 64 = 0) := by
  rcases Nat.eq_zero_or_pos i with h | h
  · exact .inl h
  · right
    have h1 : good perm bytes need (t + (i - 1 : Nat)) = true := lead_all (fun i => good perm bytes need (t + i)) n (i - 1) (by show i - 1 < kN perm bytes t need n; omega)
    obtain ⟨x0, x1, _⟩ := good_out h1
    have hl := (chk_le hck).2
    have e : t + ((i - 1 : Nat) : Int) + 1 = t + (i : Int) := by omega
    refine ⟨h, by omega, by omega, ?_⟩
    by_cases hm : (t + (i : Int)) % 64 = 0
    · exact hm
    · have := good_same hck h1 (by rw [e]; exact hm)
      rw [e, hg] at this; cases this
theorem vis_died {perm bytes : List Int} {t need : Int} {n i : Nat} (h : kN perm bytes t need n = i) (hin : i < n) : visE perm bytes t need n (died (kd bytes need (t + i)) (t + i)) := .inr ⟨by omega, by rw [h]⟩
theorem page_is {B : Nat} {bytes : List Int} {t : Int} {i p : Nat} {W : World} (h : W.heap[B]? = some (.cells (bV (pg bytes p)).toArray 122 (0, 0))) (hl : (pg bytes p).length = 64) (hp : (t + (i : Int)).toNat / 64 = p) : PageIs B bytes t (i + 1) W := by
  refine ⟨_, h, by rw [bV_len]; exact hl, fun j hj => ?_⟩
  obtain rfl : j = i := by omega
  rw [hp]
/-- The byte in the iterator's page. -/
theorem vis_cell {w : World} {B p : Nat} {bytes : List Int} {x : Int} (h : w.heap[B]? = some (.cells (bV (pg bytes p)).toArray 122 (0, 0))) (x0 : 0 ≤ x) (x1 : x < bytes.length) (hp : x.toNat / 64 = p) :
    w.cell? ⟨B, (x % 64).toNat, none⟩ = some (.int .u8 (bytes[x.toNat]?.getD 0)) := by
  obtain ⟨m, rfl⟩ := Int.eq_ofNat_of_zero_le x0
  simp only [Int.toNat_natCast] at hp ⊢
  have e : ((m : Int) % 64).toNat = m % 64 := by omega
  have hm : m < bytes.length := by have : (m : Int) < bytes.length := x1; omega
  rw [e, cell_of_row w B _ _ _ _ h]
  have h2 : p * 64 + m % 64 = m := by omega
  have h3 : (pg bytes p)[m % 64]? = bytes[m]? := by rw [pg_get (by omega), h2]
  have h4 : bytes[m]? = some (bytes[m]?.getD 0) := by simp [hm]
  have := bV_get (h3.trans h4)
  simpa using this

set_option maxHeartbeats 8000000 in
set_option maxRecDepth 100000 in
theorem visit1_c (pn pt ps pq : Nat) (n : Nat) (t need : Int) (a : Option Addr) (c : Nat) (a2 : Option Addr) (c2 : Nat) (perm bytes : List Int) (hck : chk perm bytes.length = true) (hn : n ≤ 4096) (ht : I64 t) :
    Iter Try.prog 78 #[.pointer (some ⟨pn, 0, none⟩), .pointer (some ⟨pt, 0, none⟩), .pointer (some ⟨ps, 0, none⟩), .pointer (some ⟨pq, 0, none⟩)] (visEnc bytes t) 1
      (VisIn pn pt ps pq n t need a c a2 c2 perm bytes) (kN perm bytes t need n) (visE perm bytes t need n) := by
  intro l J W hJ hV hY h0
  obtain ⟨v1, v2, v3, v4, v5, vs⟩ := hV 0 W h0
  refine callsIn_of_wp Try.func78 rfl trivial ?_
  simp only [Try.ntmps78, List.size_toArray, List.length_cons, List.length_nil, Nat.reduceAdd, Nat.reduceSub, Array.replicate_succ, Array.replicate_zero, List.push_toArray, List.append_toArray, List.nil_append, List.cons_append]
  have HJ := Lib.hid hJ
  have HV := Lib.hid hV
  have HY := Lib.hid hY
  have HCK := Lib.hid hck
  have H0 := Lib.hid h0
  have b1 := World.block_lt_of_cell? W _ v1
  have b2 := World.block_lt_of_cell? W _ v2
  have b3 := World.block_lt_of_cell? W _ v3
  have b5 := World.block_lt_of_cell? W _ v5
  have hlen := (chk_le hck).2
  have htl : -9223372036854775808 ≤ t := ht.1
  have htu : t ≤ 9223372036854775807 := ht.2
  have HT := Lib.hid ht
  clear hJ hV hY hck h0 ht
  gi_wp2
  gi_loopw [10] (fun v wr => ∃ i : Nat, i ≤ kN perm bytes t need n ∧ v = .int .i64 i ∧ J i wr ∧ W.heap.size + 1 ≤ wr.heap.size ∧ PageIs W.heap.size bytes t i wr) (fun v _ => n - (intOf v).toNat)
  case atStart =>
    refine ⟨0, Nat.zero_le _, rfl, HJ.out _ _ _ H0.out ((Turned.refl _ _ W).alloc _), by simp, ⟨List.replicate 64 (.int .u8 0), ?_, by simp, fun j h => by omega⟩⟩
    exact heap_alloc_new W _
  case round =>
    obtain ⟨i, hi, rfl, hj, hsz, hpg⟩ := hrel
    have hkn := lead_le (fun i => good perm bytes need (t + i)) n
    clear v1 v2 v3 v4 v5 vs
    obtain ⟨v1, v2, v3, v4, v5, vs⟩ := HV.out i wr hj
    have HS := Lib.hid vs
    have b1' : pn < wr.heap.size := by omega
    have b2' : pt < wr.heap.size := by omega
    have b3' : ps < wr.heap.size := by omega
    have b5' : pq < wr.heap.size := by omega
    clear vs
    by_cases hin : i < n
    · by_cases hg : good perm bytes need (t + i) = true
      · obtain ⟨x0, x1, p, q, hp, hq, hmay⟩ := good_out hg
        have hik : i < kN perm bytes t need n := good_lt hi hin hg
        obtain ⟨cs, hcs, hcl, hcp⟩ := hpg
        have HX := Lib.hid hp
        have HQ := Lib.hid hq
        have HM := Lib.hid hmay
        have HI := Lib.hid hi
        have HK := Lib.hid hik
        have HG := Lib.hid hg
        have HCP := Lib.hid hcp
        have HCL := Lib.hid hcl
        have xm0 : 0 ≤ (t + (i : Int)) % 64 := by omega
        have xm1 : (t + (i : Int)) % 64 < 64 := by omega
        clear hp hq hi hik hcp hg hkn hmay hcl
        by_cases hbd : i = 0
        · have e0 : ((i : Int) == 0) = true := by simp [hbd]
          clear hbd
          gi_wp2_with fail
          refine ⟨trivial, rfl, ?_⟩
          refine (callsIn_wide.2 (pageAt_yx _ _ _ _ _ _ _ p q need _ HS.out HCK.out x0 x1 HX.out HQ.out HM.out)).mono ?_
          rintro e w2 ⟨rfl, hb⟩
          have hpl : (pg bytes p).length = 64 := pg_len HCK.out (List.getElem?_eq_some_iff.1 HQ.out).1
          have hcs2 : w2.heap[W.heap.size]? = some (.cells cs.toArray 122 (0, 0)) := (hb.block _ (by omega)).trans hcs
          have A1 := Lib.hid (show (Try.prog.info? 122).map (·.size) = some (bV (pg bytes p)).toArray.size by simp only [List.size_toArray]; rw [bV_len, hpl]; exact Try.info122)
          have A2 := Lib.hid (show cs.toArray.size = (bV (pg bytes p)).toArray.size by simp only [List.size_toArray]; rw [bV_len, hpl, HCL.out])
          have A3 := Lib.hid (show (bV (pg bytes p)).toArray.all (·.oneCell') = true by rw [Array.all_eq_true_iff_forall_mem]; intro x hx; exact bV_one _ x (by simpa using hx))
          have HR := Lib.hid (setRow_heap w2 W.heap.size cs.toArray (bV (pg bytes p)).toArray 122 (0, 0) hcs2)
          have hj3 := HJ.out _ _ _ hj (turned_setRow (Turned.of_below hb) (g := W.heap.size) (bV (pg bytes p)).toArray (by omega) (by omega))
          have hsz3 : W.heap.size + 1 ≤ (w2.setRow W.heap.size (bV (pg bytes p)).toArray).heap.size := by have := hb.size; simp; omega
          have HCE := Lib.hid (vis_cell HR.out x0 x1 HX.out)
          obtain ⟨fn, tmps, assign, body, hy, hR⟩ := HY.out i _ hj3 HK.out hsz3
          dsimp only [visEnc] at hy
          have hce := HCE.out
          generalize bytes[(t + (i : Int)).toNat]?.getD 0 = y at hce hy
          have hB : W.heap.size < w2.heap.size := by have := hb.size; omega
          clear hpl v1 v2 v3 v4 v5 hcs
          gi_wp2_with (refine wpListIn_store_row rfl 122 (.tmp 6) (.tmp 26) rfl W.heap.size (bV (pg bytes p)).toArray rfl rfl 122 cs.toArray hcs2 A1.out A2.out A3.out ?_)
          refine ⟨rfl, ?_⟩
          refine hR.mono ?_
          rintro e w4 ⟨rfl, hj4, hl4⟩
          gi_wp2
          go_roundw
          case rel => exact ⟨i + 1, by have := HK.out; omega, by go_num, hj4, by have := hl4.size; omega, page_is ((hl4.same _ (Nat.le_refl _) (by omega)).trans HR.out) (pg_len HCK.out (List.getElem?_eq_some_iff.1 HQ.out).1) HX.out⟩
          case measure => simp [intOf]; omega
        · have e0 : ((i : Int) == 0) = false := by simp; omega
          have i0 : 0 < i := by omega
          clear hbd
          by_cases hmd : (t + (i : Int)) % 64 = 0
          · have e1 : ((t + (i : Int)) % 64 == 0) = true := by simp [hmd]
            clear hmd
            gi_wp2_with fail
            refine ⟨trivial, rfl, ?_⟩
            refine (callsIn_wide.2 (pageAt_yx _ _ _ _ _ _ _ p q need _ HS.out HCK.out x0 x1 HX.out HQ.out HM.out)).mono ?_
            rintro e w2 ⟨rfl, hb⟩
            have hpl : (pg bytes p).length = 64 := pg_len HCK.out (List.getElem?_eq_some_iff.1 HQ.out).1
            have hcs2 : w2.heap[W.heap.size]? = some (.cells cs.toArray 122 (0, 0)) := (hb.block _ (by omega)).trans hcs
            have A1 := Lib.hid (show (Try.prog.info? 122).map (·.size) = some (bV (pg bytes p)).toArray.size by simp only [List.size_toArray]; rw [bV_len, hpl]; exact Try.info122)
            have A2 := Lib.hid (show cs.toArray.size = (bV (pg bytes p)).toArray.size by simp only [List.size_toArray]; rw [bV_len, hpl, HCL.out])
            have A3 := Lib.hid (show (bV (pg bytes p)).toArray.all (·.oneCell') = true by rw [Array.all_eq_true_iff_forall_mem]; intro x hx; exact bV_one _ x (by simpa using hx))
            have HR := Lib.hid (setRow_heap w2 W.heap.size cs.toArray (bV (pg bytes p)).toArray 122 (0, 0) hcs2)
            have hj3 := HJ.out _ _ _ hj (turned_setRow (Turned.of_below hb) (g := W.heap.size) (bV (pg bytes p)).toArray (by omega) (by omega))
            have hsz3 : W.heap.size + 1 ≤ (w2.setRow W.heap.size (bV (pg bytes p)).toArray).heap.size := by have := hb.size; simp; omega
            have HCE := Lib.hid (vis_cell HR.out x0 x1 HX.out)
            obtain ⟨fn, tmps, assign, body, hy, hR⟩ := HY.out i _ hj3 HK.out hsz3
            dsimp only [visEnc] at hy
            have hce := HCE.out
            generalize bytes[(t + (i : Int)).toNat]?.getD 0 = y at hce hy
            have hB : W.heap.size < w2.heap.size := by have := hb.size; omega
            clear hpl v1 v2 v3 v4 v5 hcs
            gi_wp2_with (refine wpListIn_store_row rfl 122 (.tmp 6) (.tmp 26) rfl W.heap.size (bV (pg bytes p)).toArray rfl rfl 122 cs.toArray hcs2 A1.out A2.out A3.out ?_)
            refine ⟨rfl, ?_⟩
            refine hR.mono ?_
            rintro e w4 ⟨rfl, hj4, hl4⟩
            gi_wp2
            go_roundw
            case rel => exact ⟨i + 1, by have := HK.out; omega, by go_num, hj4, by have := hl4.size; omega, page_is ((hl4.same _ (Nat.le_refl _) (by omega)).trans HR.out) (pg_len HCK.out (List.getElem?_eq_some_iff.1 HQ.out).1) HX.out⟩
            case measure => simp [intOf]; omega
          · have e1 : ((t + (i : Int)) % 64 == 0) = false := by simpa using hmd
            have hpp : cs = bV (pg bytes p) := by
              have := HCP.out (i - 1) (by omega)
              rw [this]; congr 2
              have := HX.out; omega
            clear hmd
            subst hpp
            have HR := Lib.hid hcs
            have hce := vis_cell hcs x0 x1 HX.out
            obtain ⟨fn, tmps, assign, body, hy, hR⟩ := HY.out i _ hj HK.out hsz
            dsimp only [visEnc] at hy
            generalize bytes[(t + (i : Int)).toNat]?.getD 0 = y at hce hy
            have hB : W.heap.size < wr.heap.size := by omega
            clear hcs
            gi_wp2
            refine ⟨rfl, ?_⟩
            refine hR.mono ?_
            rintro e w4 ⟨rfl, hj4, hl4⟩
            gi_wp2
            go_roundw
            case rel => exact ⟨i + 1, by have := HK.out; omega, by go_num, hj4, by have := hl4.size; omega, page_is ((hl4.same _ (Nat.le_refl _) (by omega)).trans HR.out) (pg_len HCK.out (List.getElem?_eq_some_iff.1 HQ.out).1) HX.out⟩
            case measure => simp [intOf]; omega
      · have hg' : good perm bytes need (t + i) = false := by simpa using hg
        have hik : kN perm bytes t need n = i := kn_bad hi hg'
        have hbd := bad_edge HCK.out hi hg'
        have hs0 : -9223372036854775808 ≤ t + (i : Int) := by omega
        have hs1 : t + (i : Int) ≤ 9223372036854775807 := by
          rcases hbd with h | ⟨_, h, h2, _⟩ <;> omega
        have HB := Lib.hid hbd
        have HK := Lib.hid hik
        have HG := Lib.hid hg'
        clear hik hg' hg hi hkn hpg hbd
        by_cases hz : i = 0
        · have e0 : ((i : Int) == 0) = true := by simp [hz]
          clear hz
          gi_wp2_with fail
          refine ⟨trivial, rfl, ?_⟩
          refine (callsIn_wide.2 (pageAt_bad _ _ _ _ _ _ _ need _ HS.out HCK.out HG.out)).mono ?_
          rintro e w2 ⟨rfl, hb⟩
          exact ⟨rfl, vis_died HK.out hin, by rw [HK.out]; exact HJ.out _ _ _ hj (Turned.of_below hb)⟩
        · have e0 : ((i : Int) == 0) = false := by simp; omega
          have hmd : (t + (i : Int)) % 64 = 0 := by rcases HB.out with h | ⟨_, _, _, h⟩
                                                    · exact absurd h hz
                                                    · exact h
          have x0 : 0 ≤ t + (i : Int) := by rcases HB.out with h | ⟨_, h, _, _⟩
                                            · exact absurd h hz
                                            · exact h
          have e1 : ((t + (i : Int)) % 64 == 0) = true := by simp [hmd]
          clear hz hmd
          gi_wp2_with fail
          refine ⟨trivial, rfl, ?_⟩
          refine (callsIn_wide.2 (pageAt_bad _ _ _ _ _ _ _ need _ HS.out HCK.out HG.out)).mono ?_
          rintro e w2 ⟨rfl, hb⟩
          exact ⟨rfl, vis_died HK.out hin, by rw [HK.out]; exact HJ.out _ _ _ hj (Turned.of_below hb)⟩
    · have hik : kN perm bytes t need n = n := by have h : kN perm bytes t need n ≤ n := hkn; omega
      have hii : i = n := by omega
      have HK := Lib.hid hik
      have HI := Lib.hid hii
      clear hik hii hi hkn hpg
      gi_wp2
      go_end0
      exact ⟨.inl ⟨HK.out, _, rfl⟩, by rw [HK.out, ← HI.out]; exact hj⟩
end Go.Proofs.Ytdbcbmdekdfdoaa
