/- WHAT IS PROVED: a thread enters its queue, at the end or at the front of its priority; a thread runs. CONDITIONS: the boxes hold the closures; the state lies in memory of one's own. -/
import Derived.Test.YtggikbcgijmhbaaK
set_option linter.unusedSimpArgs false
set_option linter.unusedVariables false
namespace Go.Proofs.Ytggikbcgijmhbaa
open Go Go.RowKit Go.QrBits Go.QrMem
section
variable {B b0 bc cc ct e : Nat} {at_ : Option Addr} {rs : List (Option Addr × Nat)} {s : St} {w : World}
/-- The queue of processor c names threads. -/
def Rng (s : St) (c : Nat) : Prop := ∀ r ∈ (quOf s.qs (c : Int)).ready, 0 ≤ r ∧ r < s.ts.length
set_option maxHeartbeats 1000000 in
set_option maxRecDepth 100000 in
theorem predEnd_c (he : Env b0 e w) (h : Own B b0 bc cc at_ ct rs s w) {k x : Nat} {r : Int} (hk : k < s.ts.length) (hr : 0 ≤ r ∧ r < s.ts.length) (hx : w.cell? ⟨x, 0, none⟩ = some (.int .i64 k)) :
    Calls Try.prog 93 #[.int .i64 r, .pointer (some ⟨e, 0, none⟩), .pointer (some ⟨x, 0, none⟩)] w fun y w' => y = .returned (.bool (endP k s.ts r)) ∧ ∃ n, w' = w.drewN n := by
  obtain ⟨j, rfl⟩ : ∃ j : Nat, r = j := ⟨r.toNat, by omega⟩
  have hj : j < s.ts.length := by omega
  obtain ⟨bt, rfl⟩ := h.at_some hk
  obtain ⟨t1, _⟩ := h.tcells (th_some hk)
  obtain ⟨t2, _⟩ := h.tcells (th_some hj)
  have p1 : w.cell? ⟨b0, 1, none⟩ = some (.slice (some ⟨bt, 0, none⟩) s.ts.length ct) := by simp [World.cell?, h.nxt]
  obtain ⟨s0, _, _⟩ := cell0 he.sx
  have hm := (slV_own h.th).max
  unfold maxLen at hm
  have e0 : endP k s.ts (j : Int) = decide ((thOf s.ts (k : Int)).pri ≤ (thOf s.ts (j : Int)).pri) := rfl
  rw [e0]
  clear h he hr e0
  generalize s.ts.length = m at *
  generalize (thOf s.ts (k : Int)).pri = y1 at *
  generalize (thOf s.ts (j : Int)).pri = y2 at *
  have k0 : (0 : Int) ≤ (k : Int) := Int.natCast_nonneg _
  have k1 : (k : Int) < (m : Int) := by omega
  have j0 : (0 : Int) ≤ (j : Int) := Int.natCast_nonneg _
  have j1 : (j : Int) < (m : Int) := by omega
  go_enter Try.func93, Try.ntmps93
  go_wp2
  go_quiet (fail)
  go_wp2
  go_ret
  exact ⟨by simp, _, rfl⟩
set_option maxHeartbeats 1000000 in
set_option maxRecDepth 100000 in
theorem predFront_c (he : Env b0 e w) (h : Own B b0 bc cc at_ ct rs s w) {k x : Nat} {r : Int} (hk : k < s.ts.length) (hr : 0 ≤ r ∧ r < s.ts.length) (hx : w.cell? ⟨x, 0, none⟩ = some (.int .i64 k)) :
    Calls Try.prog 95 #[.int .i64 r, .pointer (some ⟨e, 0, none⟩), .pointer (some ⟨x, 0, none⟩)] w fun y w' => y = .returned (.bool (frontP k s.ts r)) ∧ ∃ n, w' = w.drewN n := by
  obtain ⟨j, rfl⟩ : ∃ j : Nat, r = j := ⟨r.toNat, by omega⟩
  have hj : j < s.ts.length := by omega
  obtain ⟨bt, rfl⟩ := h.at_some hk
  obtain ⟨t1, _⟩ := h.tcells (th_some hk)
  obtain ⟨t2, _⟩ := h.tcells (th_some hj)
  have p1 : w.cell? ⟨b0, 1, none⟩ = some (.slice (some ⟨bt, 0, none⟩) s.ts.length ct) := by simp [World.cell?, h.nxt]
  obtain ⟨s0, _, _⟩ := cell0 he.sx
  have hm := (slV_own h.th).max
  unfold maxLen at hm
  have e0 : frontP k s.ts (j : Int) = decide ((thOf s.ts (k : Int)).pri < (thOf s.ts (j : Int)).pri) := rfl
  rw [e0]
  clear h he hr e0
  generalize s.ts.length = m at *
  generalize (thOf s.ts (k : Int)).pri = y1 at *
  generalize (thOf s.ts (j : Int)).pri = y2 at *
  have k0 : (0 : Int) ≤ (k : Int) := Int.natCast_nonneg _
  have k1 : (k : Int) < (m : Int) := by omega
  have j0 : (0 : Int) ≤ (j : Int) := Int.natCast_nonneg _
  have j1 : (j : Int) < (m : Int) := by omega
  go_enter Try.func95, Try.ntmps95
  go_wp2
  go_quiet (fail)
  go_wp2
  go_ret
  exact ⟨by simp, _, rfl⟩
theorem leaveM_qu {s : St} {k c : Nat} {st : Int} (hc : (thOf s.ts (k : Int)).cpu = c) (hcl : c < s.qs.length) : quOf (leaveM s k st).qs c = ⟨if (quOf s.qs c).run = k then -1 else (quOf s.qs c).run, if (quOf s.qs c).run = k then 0 else (quOf s.qs c).left, (quOf s.qs c).ready.erase (k : Int)⟩ := by
  rw [leaveM_run hc, quOf_set _ _ _ _ hcl, if_pos rfl]
theorem leaveM_cpu {s : St} {k : Nat} {st : Int} (hk : k < s.ts.length) : (thOf (leaveM s k st).ts (k : Int)).cpu = (thOf s.ts (k : Int)).cpu ∧ (thOf (leaveM s k st).ts (k : Int)).st = st ∧ (thOf (leaveM s k st).ts (k : Int)).pri = (thOf s.ts (k : Int)).pri := by
  have e := leaveM_th (st := st) hk (k : Int)
  simp only [Int.toNat_natCast, if_true] at e
  rw [e]; exact ⟨rfl, rfl, rfl⟩
set_option maxHeartbeats 2000000 in
set_option maxRecDepth 100000 in
theorem enter_c (he : Env b0 e w) (h : Own B b0 bc cc at_ ct rs s w) {k c : Nat} (hk : k < s.ts.length) (hc : (thOf s.ts (k : Int)).cpu = c) (hcl : c < s.qs.length) (hsh : Short s 4000) (F : Nat) (p1 p2 : Value) (p : List Th → Int → Bool) (hF : ∀ args w, (callFunc F args).run Try.prog w = .ok (.enter F args) w)
    (hA : ∀ (rs' : List (Option Addr × Nat)) (w' : World), Own B b0 bc cc at_ ct rs' (leaveM s k 1) w' → Env b0 e w' → Fr bc at_ w w' → AheadC F #[p1, p2] (quOf (leaveM s k 1).qs (c : Int)).ready (p (leaveM s k 1).ts) w') :
    Calls Try.prog 90 #[.int .i64 k, .func (.func F) #[] #[p1, p2], .pointer (some ⟨e + 3, 0, none⟩), .pointer (some ⟨e + 2, 0, none⟩)] w (Moved B b0 bc cc at_ ct (enterM s k p) w) := by
  have hL := leave_c he h hk hc hcl hsh 1
  obtain ⟨q0, _, _⟩ := cell0 he.lv
  have HL := Lib.hid hL
  have HE := Lib.hid he
  have HO := Lib.hid h
  have HA := Lib.hid hA
  have HC := Lib.hid hc
  have HSH := Lib.hid hsh
  clear hL he h hA hc hsh
  go_enter Try.func90, Try.ntmps90
  go_wp2_with fail
  refine HL.out.mono ?_
  rintro x w1 ⟨rfl, ⟨rs1, O1⟩, F1⟩
  have E1 := HE.out.fr HO.out F1
  have hk1 : k < (leaveM s k 1).ts.length := by rw [leaveM_m]; exact hk
  have hcl1 : c < (leaveM s k 1).qs.length := by rw [leaveM_n]; exact hcl
  have hc1 : (thOf (leaveM s k 1).ts (k : Int)).cpu = c := (leaveM_cpu hk).1.trans HC.out
  have hP := procOf_c E1 O1 hk1 hc1 hcl1
  have hlen : (quOf (leaveM s k 1).qs (c : Int)).ready.length ≤ 4000 := by
    rw [leaveM_qu HC.out hcl]
    exact Nat.le_trans (List.length_erase_le) (HSH.out c _ (qu_some hcl))
  have hM : enterM s k p = { leaveM s k 1 with qs := (leaveM s k 1).qs.set c { (quOf (leaveM s k 1).qs (c : Int)) with ready := insM (quOf (leaveM s k 1).qs (c : Int)).ready k (p (leaveM s k 1).ts) } } := by
    simp [enterM, hc1]
  have HA1 := Lib.hid (HA.out rs1 w1 O1 E1 F1)
  obtain ⟨q1, _, _⟩ := cell0 E1.pr
  have HP := Lib.hid hP
  have HO1 := Lib.hid O1
  have HE1 := Lib.hid E1
  have HF1 := Lib.hid F1
  have HM := Lib.hid hM
  have HU := Lib.hid (qu_some hcl1)
  clear hP O1 E1 F1 hM q0 HL HE HO HA hc1
  generalize leaveM s k 1 = s1 at *
  generalize quOf s1.qs (c : Int) = u at *
  go_wp2_with fail
  refine HP.out.mono ?_
  rintro x w2 ⟨rfl, n, hw2⟩
  have hB2 : Below w1.heap.size w1 w2 := by rw [hw2]; exact below_of_drewN n
  have O2 := HO1.out.below hB2
  obtain ⟨r, hr, _, _, c2, _, _, f2⟩ := O2.cells HU.out
  have R2 := O2.rd c _ r HU.out hr
  have A2 : AheadC F #[p1, p2] u.ready (p s1.ts) w2 := fun r hr W hW => HA1.out r hr W (hB2.trans (hW.mono hB2.size))
  have HI := Lib.hid (insert_c r.1 r.2 u.ready (k : Int) F p1 p2 (p s1.ts) w2 R2 hlen O2.bw hF A2)
  have HO2 := Lib.hid O2
  have F2 := Lib.hid (HF1.out.trans (Fr.of_below hB2))
  clear hw2 hB2 O2 R2 A2 hr q1 HP HO1 HE1 HF1 HA1
  go_wp2_with fail
  refine HI.out.mono ?_
  rintro x w3 ⟨a', c', rfl, hR3, hB3⟩
  have O3 := HO2.out.below hB3
  obtain ⟨_, _, _, _, d2, _, _, d5⟩ := O3.cells HU.out
  have O4 := Lib.hid (O3.setReady HU.out (l := insM u.ready (k : Int) (p s1.ts)) (r' := (a', c')) hR3)
  have F4 := Lib.hid ((F2.out.trans (Fr.of_below hB3)).setC (c * 3 + 2) (.slice a' (insM u.ready (k : Int) (p s1.ts)).length c'))
  clear hR3 hB3 O3 HO2 F2 HI c2 f2
  go_wp2_with fail
  refine bodyPost_end (results_none rfl _ _ _) rfl ?_
  refine ⟨rfl, ⟨rs1.set c (a', c'), ?_⟩, F4.out⟩
  rw [HM.out]
  exact O4.out

set_option maxHeartbeats 2000000 in
set_option maxRecDepth 100000 in
theorem toEnd_c (he : Env b0 e w) (h : Own B b0 bc cc at_ ct rs s w) {k c : Nat} (hk : k < s.ts.length) (hc : (thOf s.ts (k : Int)).cpu = c) (hcl : c < s.qs.length) (hsh : Short s 4000) (hrg : Rng s c) :
    Calls Try.prog 92 #[.int .i64 k, .pointer (some ⟨e + 4, 0, none⟩), .pointer (some ⟨e, 0, none⟩)] w (Moved B b0 bc cc at_ ct (enterM s k (endP k)) w) := by
  have hB1 : Below w.heap.size w (w.alloc (.cells #[.int .i64 k] 3)) := b_alloc (Below.refl _ _)
  have hx1 : (w.alloc (.cells #[.int .i64 k] 3)).heap[w.heap.size]? = some (.cells #[.int .i64 k] 3 (0, 0)) := heap_alloc_new w _
  have hEn := enter_c (he.below hB1) (h.below hB1) hk hc hcl hsh 93 (.pointer (some ⟨e, 0, none⟩)) (.pointer (some ⟨w.heap.size, 0, none⟩)) (endP k) (enters_of Try.func93 (by kernel_rfl) rfl) (fun rs' w' O' E' F' r hr W hW => by
    have hk1 : k < (leaveM s k 1).ts.length := by rw [leaveM_m]; exact hk
    have hx2 := (h.below hB1).kept F' hx1 (by decide)
    have hx3 := (hW.block _ (Array.getElem?_eq_some_iff.1 hx2).1).trans hx2
    refine predEnd_c (E'.below hW) (O'.below hW) hk1 ?_ (cell0 hx3).1
    rw [leaveM_m]
    rw [leaveM_qu hc hcl] at hr
    exact hrg r (List.mem_of_mem_erase hr))
  obtain ⟨q0, _, q2⟩ := cell0 he.en
  have HEn := Lib.hid hEn
  have HF : Hid (∀ w', Fr bc at_ (w.alloc (.cells #[.int .i64 k] 3)) w' → Fr bc at_ w w') := Lib.hid fun w' hf => (Fr.of_below hB1).trans hf
  have hmf : ∀ (fn : Fn) (first cap : Array Value) (w : World), (Instr.makeFunc fn first cap).run Try.prog w = .ok (.func fn first cap) w := fun _ _ _ _ => rfl
  clear hEn hB1 hx1 he h hc hsh hrg
  go_enter Try.func92, Try.ntmps92
  go_wp2_with fail
  refine HEn.out.mono ?_
  rintro x w1 ⟨rfl, h1, h2⟩
  have H1 := Lib.hid h1
  have H2 := Lib.hid h2
  clear h1 h2
  go_wp2
  refine bodyPost_end (results_none rfl _ _ _) rfl ?_
  exact ⟨rfl, H1.out, HF.out _ H2.out⟩

set_option maxHeartbeats 2000000 in
set_option maxRecDepth 100000 in
theorem toFront_c (he : Env b0 e w) (h : Own B b0 bc cc at_ ct rs s w) {k c : Nat} (hk : k < s.ts.length) (hc : (thOf s.ts (k : Int)).cpu = c) (hcl : c < s.qs.length) (hsh : Short s 4000) (hrg : Rng s c) :
    Calls Try.prog 94 #[.int .i64 k, .pointer (some ⟨e + 4, 0, none⟩), .pointer (some ⟨e, 0, none⟩)] w (Moved B b0 bc cc at_ ct (enterM s k (frontP k)) w) := by
  have hB1 : Below w.heap.size w (w.alloc (.cells #[.int .i64 k] 3)) := b_alloc (Below.refl _ _)
  have hx1 : (w.alloc (.cells #[.int .i64 k] 3)).heap[w.heap.size]? = some (.cells #[.int .i64 k] 3 (0, 0)) := heap_alloc_new w _
  have hEn := enter_c (he.below hB1) (h.below hB1) hk hc hcl hsh 95 (.pointer (some ⟨e, 0, none⟩)) (.pointer (some ⟨w.heap.size, 0, none⟩)) (frontP k) (enters_of Try.func95 (by kernel_rfl) rfl) (fun rs' w' O' E' F' r hr W hW => by
    have hk1 : k < (leaveM s k 1).ts.length := by rw [leaveM_m]; exact hk
    have hx2 := (h.below hB1).kept F' hx1 (by decide)
    have hx3 := (hW.block _ (Array.getElem?_eq_some_iff.1 hx2).1).trans hx2
    refine predFront_c (E'.below hW) (O'.below hW) hk1 ?_ (cell0 hx3).1
    rw [leaveM_m]
    rw [leaveM_qu hc hcl] at hr
    exact hrg r (List.mem_of_mem_erase hr))
  obtain ⟨q0, _, q2⟩ := cell0 he.en
  have HEn := Lib.hid hEn
  have HF : Hid (∀ w', Fr bc at_ (w.alloc (.cells #[.int .i64 k] 3)) w' → Fr bc at_ w w') := Lib.hid fun w' hf => (Fr.of_below hB1).trans hf
  have hmf : ∀ (fn : Fn) (first cap : Array Value) (w : World), (Instr.makeFunc fn first cap).run Try.prog w = .ok (.func fn first cap) w := fun _ _ _ _ => rfl
  clear hEn hB1 hx1 he h hc hsh hrg
  go_enter Try.func94, Try.ntmps94
  go_wp2_with fail
  refine HEn.out.mono ?_
  rintro x w1 ⟨rfl, h1, h2⟩
  have H1 := Lib.hid h1
  have H2 := Lib.hid h2
  clear h1 h2
  go_wp2
  refine bodyPost_end (results_none rfl _ _ _) rfl ?_
  exact ⟨rfl, H1.out, HF.out _ H2.out⟩

set_option maxHeartbeats 2000000 in
set_option maxRecDepth 100000 in
theorem toRun_c (he : Env b0 e w) (h : Own B b0 bc cc at_ ct rs s w) {k c : Nat} (hk : k < s.ts.length) (hc : (thOf s.ts (k : Int)).cpu = c) (hcl : c < s.qs.length) (hsh : Short s 4000) :
    Calls Try.prog 96 #[.int .i64 k, .pointer (some ⟨e + 3, 0, none⟩), .pointer (some ⟨e + 2, 0, none⟩), .pointer (some ⟨e, 0, none⟩)] w (Moved B b0 bc cc at_ ct (toRunM s k) w) := by
  have hL := leave_c he h hk hc hcl hsh 2
  obtain ⟨q0, _, _⟩ := cell0 he.lv
  have HL := Lib.hid hL
  have HE := Lib.hid he
  have HO := Lib.hid h
  have HC := Lib.hid hc
  clear hL he h hc hsh
  go_enter Try.func96, Try.ntmps96
  go_wp2_with fail
  refine HL.out.mono ?_
  rintro x w1 ⟨rfl, ⟨rs1, O1⟩, F1⟩
  have E1 := HE.out.fr HO.out F1
  have hk1 : k < (leaveM s k 2).ts.length := by rw [leaveM_m]; exact hk
  have hcl1 : c < (leaveM s k 2).qs.length := by rw [leaveM_n]; exact hcl
  have hc1 : (thOf (leaveM s k 2).ts (k : Int)).cpu = c := (leaveM_cpu hk).1.trans HC.out
  have hP := procOf_c E1 O1 hk1 hc1 hcl1
  have hM : toRunM s k = { leaveM s k 2 with qs := (leaveM s k 2).qs.set c { (quOf (leaveM s k 2).qs (c : Int)) with run := k, left := (leaveM s k 2).q } } := by
    simp [toRunM, hc1]
  obtain ⟨q1, _, _⟩ := cell0 E1.pr
  have HP := Lib.hid hP
  have HO1 := Lib.hid O1
  have HE1 := Lib.hid E1
  have HF1 := Lib.hid F1
  have HM := Lib.hid hM
  have HU := Lib.hid (qu_some hcl1)
  clear hP O1 E1 F1 hM q0 HL HE HO hc1
  generalize leaveM s k 2 = s1 at *
  generalize quOf s1.qs (c : Int) = u at *
  go_wp2_with fail
  refine HP.out.mono ?_
  rintro x w2 ⟨rfl, n, hw2⟩
  have hB2 : Below w1.heap.size w1 w2 := by rw [hw2]; exact below_of_drewN n
  have O2 := HO1.out.below hB2
  have E2 := HE1.out.below hB2
  obtain ⟨_, _, c0, _, _, f0, _⟩ := O2.cells HU.out
  have O3 := O2.setRun HU.out (k : Int)
  have hu3 : (s1.qs.set c { u with run := (k : Int) })[c]? = some { u with run := (k : Int) } := List.getElem?_set_self hcl1
  obtain ⟨_, _, _, c1, _, _, f1, _⟩ := O3.cells hu3
  have O4 := Lib.hid (O3.setLeft hu3 s1.q)
  have F4 := Lib.hid (((HF1.out.trans (Fr.of_below hB2)).setC (c * 3) (.int .i64 k)).setC (c * 3 + 1) (.int .i64 s1.q))
  obtain ⟨s0, _, _⟩ := cell0 E2.sx
  have p2 : w2.cell? ⟨b0, 2, none⟩ = some (.int .i64 s1.q) := by simp [World.cell?, O2.nxt]
  have HM2 : Hid (toRunM s k = { s1 with qs := s1.qs.set c { u with run := (k : Int), left := s1.q } }) := HM
  simp only [] at c1 f1
  clear hw2 hB2 O2 E2 O3 hu3 HP HO1 HE1 HF1 HM q1
  go_wp2_with fail
  refine bodyPost_end (results_none rfl _ _ _) rfl ?_
  refine ⟨rfl, ⟨rs1, ?_⟩, F4.out⟩
  rw [HM2.out]
  simpa only [List.set_set] using O4.out
end
end Go.Proofs.Ytggikbcgijmhbaa
