/- WHAT IS PROVED: the closures of the scheduler's moves: a thread leaves, enters, runs, goes to another processor. CONDITIONS: the boxes hold the closures; the state lies in memory of one's own. -/
import Derived.Test.YtggikbcgijmhbaaJ
set_option linter.unusedSimpArgs false
set_option linter.unusedVariables false
namespace Go.Proofs.Ytggikbcgijmhbaa
open Go Go.RowKit Go.QrBits Go.QrMem
/-- Every queue is short. -/
def Short (s : St) (n : Nat) : Prop := ∀ (k : Nat) (u : Qu), s.qs[k]? = some u → u.ready.length ≤ n
/-- What a move leaves: the state s, the same places but for the queues. -/
def Moved (B b0 bc cc : Nat) (at_ : Option Addr) (ct : Nat) (s : St) (w : World) (e : Ending) (w' : World) : Prop :=
  e = .returned (.tuple #[]) ∧ (∃ rs, Own B b0 bc cc at_ ct rs s w') ∧ Fr bc at_ w w'
section
variable {B b0 bc cc ct e : Nat} {at_ : Option Addr} {rs : List (Option Addr × Nat)} {s : St} {w : World}
set_option maxHeartbeats 1000000 in
set_option maxRecDepth 100000 in
theorem procOf_c (he : Env b0 e w) (h : Own B b0 bc cc at_ ct rs s w) {k c : Nat} (hk : k < s.ts.length) (hc : (thOf s.ts (k : Int)).cpu = c) (hcl : c < s.qs.length) :
    Calls Try.prog 87 #[.int .i64 k, .pointer (some ⟨e, 0, none⟩)] w fun x w' => x = .returned (.pointer (some ⟨bc, c * 3, none⟩)) ∧ ∃ n, w' = w.drewN n := by
  obtain ⟨bt, rfl⟩ := h.at_some hk
  obtain ⟨_, t1, _⟩ := h.tcells (th_some hk)
  rw [hc] at t1
  obtain ⟨p0, p1, p2, q0, q1, q2, p3⟩ : w.cell? ⟨b0, 0, none⟩ = some (.slice (some ⟨bc, 0, none⟩) s.qs.length cc) ∧ w.cell? ⟨b0, 1, none⟩ = some (.slice (some ⟨bt, 0, none⟩) s.ts.length ct) ∧ w.cell? ⟨b0, 2, none⟩ = some (.int .i64 s.q) ∧ True ∧ True ∧ True ∧ True :=
    ⟨by simp [World.cell?, h.nxt], by simp [World.cell?, h.nxt], by simp [World.cell?, h.nxt], trivial, trivial, trivial, trivial⟩
  obtain ⟨s0, _, _⟩ := cell0 he.sx
  have hm := (slV_own h.th).max
  have hn := (slV_own h.cp).max
  unfold maxLen at hm hn
  clear h he hc q0 q1 q2 p3
  generalize s.ts.length = m at *
  generalize s.qs.length = n at *
  have k0 : (0 : Int) ≤ (k : Int) := Int.natCast_nonneg _
  have k1 : (k : Int) < (m : Int) := by omega
  have c0 : (0 : Int) ≤ (c : Int) := Int.natCast_nonneg _
  have c1 : (c : Int) < (n : Int) := by omega
  go_enter Try.func87, Try.ntmps87
  go_wp2
  go_quiet (fail)
  go_wp2
  go_ret
  exact ⟨by simp, _, rfl⟩

set_option maxHeartbeats 4000000 in
set_option maxRecDepth 100000 in
theorem leave_c (he : Env b0 e w) (h : Own B b0 bc cc at_ ct rs s w) {k c : Nat} (hk : k < s.ts.length) (hc : (thOf s.ts (k : Int)).cpu = c) (hcl : c < s.qs.length) (hsh : Short s 4000) (st : Int) :
    Calls Try.prog 88 #[.int .i64 k, .int .i64 st, .pointer (some ⟨e + 2, 0, none⟩), .pointer (some ⟨e, 0, none⟩)] w (Moved B b0 bc cc at_ ct (leaveM s k st) w) := by
  obtain ⟨bt, rfl⟩ := h.at_some hk
  have hP := procOf_c he h hk hc hcl
  obtain ⟨p0, _, p1⟩ := cell0 he.pr
  have hu := qu_some hcl
  have ht := th_some hk
  have hlM : leaveM s k st = { s with qs := s.qs.set c ⟨if (quOf s.qs c).run = k then -1 else (quOf s.qs c).run, if (quOf s.qs c).run = k then 0 else (quOf s.qs c).left, (quOf s.qs c).ready.erase (k : Int)⟩, ts := s.ts.set k { (thOf s.ts (k : Int)) with st := st } } := by
    simp [leaveM, hc]
  have hlen := hsh c _ hu
  have k0 : (0 : Int) ≤ (k : Int) := Int.natCast_nonneg _
  have k1 : (k : Int) < (s.ts.length : Int) := by omega
  have hm := (slV_own h.th).max
  unfold maxLen at hm
  have HP := Lib.hid hP
  have HE := Lib.hid he
  have HO := Lib.hid h
  have HU := Lib.hid hu
  have HT := Lib.hid ht
  have HM := Lib.hid hlM
  clear hP he h hu ht hlM hc hsh
  go_enter Try.func88, Try.ntmps88
  go_wp2_with fail
  refine HP.out.mono ?_
  rintro x w1 ⟨rfl, n, hw1⟩
  have hB1 : Below w.heap.size w w1 := by rw [hw1]; exact below_of_drewN n
  clear hw1 p0
  have H1 := Lib.hid (HO.out.below hB1)
  have E1 := Lib.hid (HE.out.below hB1)
  have F1 : Hid (Fr bc (some ⟨bt, 0, none⟩) w w1) := Lib.hid (Fr.of_below hB1)
  clear HP HO HE hB1
  obtain ⟨r, hr, c0, c1, c2, f0, f1, f2⟩ := H1.out.cells HU.out
  have HR := Lib.hid (H1.out.rd c _ r HU.out hr)
  have HRR := Lib.hid hr
  clear hr
  generalize hgu : quOf s.qs (c : Int) = u at *
  clear hgu
  have nu : s.ts.length = (s.ts.set k { (thOf s.ts (k : Int)) with st := st }).length := by simp
  have HLT := Lib.hid nu
  clear nu
  by_cases hrun : u.run = k
  · have hb : (u.run == (k : Int)) = true := by simpa using hrun
    have O2 := H1.out.setRun HU.out (-1)
    have hu2 : (s.qs.set c { u with run := -1 })[c]? = some { u with run := -1 } := List.getElem?_set_self hcl
    have O3 := O2.setLeft hu2 0
    have hu3 : ((s.qs.set c { u with run := -1 }).set c { u with run := -1, left := 0 })[c]? = some { u with run := -1, left := 0 } := List.getElem?_set_self (by simpa using hcl)
    obtain ⟨_, _, _, g1, _, _, g2, _⟩ := O2.cells hu2
    obtain ⟨r', hr', _, _, g3, _⟩ := O3.cells hu3
    rw [HRR.out] at hr'; cases hr'
    have R3 := Lib.hid (O3.rd c _ r hu3 HRR.out)
    have HO3 := Lib.hid O3
    have HU3 := Lib.hid hu3
    have F3 := Lib.hid ((F1.out.setC (c * 3) (.int .i64 (-1))).setC (c * 3 + 1) (.int .i64 0))
    have E3 := Lib.hid (E1.out.fr H1.out (((Fr.refl bc (some ⟨bt, 0, none⟩) w1).setC (c * 3) (.int .i64 (-1))).setC (c * 3 + 1) (.int .i64 0)))
    have HS : Hid (leaveM s k st = { s with qs := s.qs.set c ⟨-1, 0, u.ready.erase (k : Int)⟩, ts := s.ts.set k { (thOf s.ts (k : Int)) with st := st } }) := Lib.hid (by rw [HM.out, if_pos hrun, if_pos hrun])
    clear O2 O3 hu2 hu3 H1 E1 F1 HM hrun
    rw [show u.run = (k : Int) from by simpa using hb] at c0
    clear hb
    simp only [] at g1 g2 g3
    go_wp2_with fail
    generalize ((w1.setCell ⟨bc, c * 3, none⟩ (.int .i64 (-1))).setCell ⟨bc, c * 3 + 1, none⟩ (.int .i64 0)) = w3 at *
    clear c0 c1 c2 f0 f1 f2 g1 g2 g3 HR
    refine (without_c _ _ _ (k : Int) _ R3.out hlen HO3.out.bw).mono ?_
    rintro x w4 ⟨a', c', rfl, hR4, hB4⟩
    have O4 := HO3.out.below hB4
    have E4 := E3.out.below hB4
    obtain ⟨_, _, _, _, d2, _, _, d5⟩ := O4.cells HU3.out
    have O5 := O4.setReady HU3.out (l := u.ready.erase (k : Int)) (r' := (a', c')) hR4
    have E5 := E4.fr O4 ((Fr.refl bc (some ⟨bt, 0, none⟩) w4).setC (c * 3 + 2) (.slice a' (u.ready.erase (k : Int)).length c'))
    have F5 := Lib.hid ((F3.out.trans (Fr.of_below hB4)).setC (c * 3 + 2) (.slice a' (u.ready.erase (k : Int)).length c'))
    obtain ⟨s0, _, _⟩ := cell0 E5.sx
    have q1 : (w4.setCell ⟨bc, c * 3 + 2, none⟩ (.slice a' (u.ready.erase (k : Int)).length c')).cell? ⟨b0, 1, none⟩ = some (.slice (some ⟨bt, 0, none⟩) s.ts.length ct) := by have := O5.nxt; simp [World.cell?, this]
    obtain ⟨_, _, t2, _, _, t5⟩ := O5.tcells HT.out
    have O6 := O5.setT (ts' := s.ts.set k { (thOf s.ts (k : Int)) with st := st }) ((tV_set HT.out).2.2 st) HLT.out.symm
    have F6 := Lib.hid (F5.out.setT (k * 3 + 2) (.int .i64 st))
    have HO6 := Lib.hid O6
    simp only [] at d2 t2 t5 q1
    clear hR4 hB4 O4 E4 O5 E5 O6 F5 F3 E3 HO3 R3
    go_wp2_with fail
    refine bodyPost_end (results_none rfl _ _ _) rfl ?_
    refine ⟨rfl, ⟨rs.set c (a', c'), ?_⟩, F6.out⟩
    rw [HS.out]
    have := HO6.out
    simpa only [List.set_set] using this
  · have hb : (u.run == (k : Int)) = false := by simpa using hrun
    have HO3 : Hid (Own B b0 bc cc (some ⟨bt, 0, none⟩) ct rs s w1) := H1
    have HU3 := HU
    have F3 := F1
    have E3 := E1
    have R3 := HR
    have HS : Hid (leaveM s k st = { s with qs := s.qs.set c ⟨u.run, u.left, u.ready.erase (k : Int)⟩, ts := s.ts.set k { (thOf s.ts (k : Int)) with st := st } }) := Lib.hid (by rw [HM.out, if_neg hrun, if_neg hrun])
    clear H1 E1 F1 HM hrun
    go_wp2_with fail
    clear c0 c1 c2 f0 f1 f2 HR hb
    generalize hw3 : w1 = w3 at *
    clear hw3
    refine (without_c _ _ _ (k : Int) _ R3.out hlen HO3.out.bw).mono ?_
    rintro x w4 ⟨a', c', rfl, hR4, hB4⟩
    have O4 := HO3.out.below hB4
    have E4 := E3.out.below hB4
    obtain ⟨_, _, _, _, d2, _, _, d5⟩ := O4.cells HU3.out
    have O5 := O4.setReady HU3.out (l := u.ready.erase (k : Int)) (r' := (a', c')) hR4
    have E5 := E4.fr O4 ((Fr.refl bc (some ⟨bt, 0, none⟩) w4).setC (c * 3 + 2) (.slice a' (u.ready.erase (k : Int)).length c'))
    have F5 := Lib.hid ((F3.out.trans (Fr.of_below hB4)).setC (c * 3 + 2) (.slice a' (u.ready.erase (k : Int)).length c'))
    obtain ⟨s0, _, _⟩ := cell0 E5.sx
    have q1 : (w4.setCell ⟨bc, c * 3 + 2, none⟩ (.slice a' (u.ready.erase (k : Int)).length c')).cell? ⟨b0, 1, none⟩ = some (.slice (some ⟨bt, 0, none⟩) s.ts.length ct) := by have := O5.nxt; simp [World.cell?, this]
    obtain ⟨_, _, t2, _, _, t5⟩ := O5.tcells HT.out
    have O6 := O5.setT (ts' := s.ts.set k { (thOf s.ts (k : Int)) with st := st }) ((tV_set HT.out).2.2 st) HLT.out.symm
    have F6 := Lib.hid (F5.out.setT (k * 3 + 2) (.int .i64 st))
    have HO6 := Lib.hid O6
    simp only [] at d2 t2 t5 q1
    clear hR4 hB4 O4 E4 O5 E5 O6 F5 F3 E3 HO3 R3
    go_wp2_with fail
    refine bodyPost_end (results_none rfl _ _ _) rfl ?_
    refine ⟨rfl, ⟨rs.set c (a', c'), ?_⟩, F6.out⟩
    rw [HS.out]
    have := HO6.out
    simpa only [List.set_set] using this
end
end Go.Proofs.Ytggikbcgijmhbaa
