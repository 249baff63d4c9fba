/- WHAT IS PROVED: the law's done, for every operation on a valid state. CONDITIONS: as the cells lie. -/
import Derived.Test.YtggikbcgijmhbaaAs
import Derived.Test.YtggikbcgijmhbaaAr
import Derived.Test.YtggikbcgijmhbaaPt
set_option linter.unusedSimpArgs false
set_option linter.unusedVariables false
namespace Go.Proofs.Ytggikbcgijmhbaa
open Go Go.RowKit Go.QrBits Go.QrMem
/-- A state that lies where the blocks X do not matter. -/
def ScF (X : Nat → Prop) (w : World) (s : St) (a : Option Addr) (d : Nat) (b : Option Addr) (e : Nat) : Prop :=
  ∀ W' : World, w.heap.size ≤ W'.heap.size → (∀ k, k < w.heap.size → ¬ X k → W'.heap[k]? = w.heap[k]?) → ScIn W' a d b e s.qs s.ts
theorem ScF.at_ {X : Nat → Prop} {w : World} {s : St} {a : Option Addr} {d : Nat} {b : Option Addr} {e : Nat} (h : ScF X w s a d b e) : ScIn w a d b e s.qs s.ts := h w (Nat.le_refl _) fun _ _ _ => rfl
theorem ScF.step {X X' : Nat → Prop} {w w' : World} {s : St} {a : Option Addr} {d : Nat} {b : Option Addr} {e : Nat} (h : ScF X w s a d b e) (hz : w.heap.size ≤ w'.heap.size) (hX : ∀ k, k < w.heap.size → X' k → X k) (hb : ∀ k, k < w.heap.size → ¬ X k → w'.heap[k]? = w.heap[k]?) : ScF X' w' s a d b e :=
  fun W hz' hW => h W (by omega) fun k hk hx => (hW k (by omega) (fun h => hx (hX k hk h))).trans (hb k hk hx)
theorem ScF.below {X : Nat → Prop} {w w' : World} {s : St} {a : Option Addr} {d : Nat} {b : Option Addr} {e : Nat} (h : ScF X w s a d b e) (hb : Below w.heap.size w w') : ScF X w' s a d b e := h.step hb.size (fun _ _ h => h) fun k hk _ => hb.block k hk
theorem SlAt.of_heap {w w' : World} {a : Option Addr} {xs : List Value} (h : SlAt w a xs) (hz : w.heap.size ≤ w'.heap.size) (hb : ∀ k, k < w.heap.size → w'.heap[k]? = w.heap[k]?) : SlAt w' a xs := by
  rcases h with h | ⟨b, off, ha, hl, hc⟩
  · exact .inl h
  · exact .inr ⟨b, off, ha, by omega, fun j x hx => (World.cell?_of_block (w := w) (a := ⟨b, off + j, none⟩) (hb b hl)).trans (hc j x hx)⟩
theorem ScIn.of_heap {w w' : World} {a : Option Addr} {c : Nat} {a2 : Option Addr} {c2 : Nat} {qs : List Qu} {ts : List Th} (h : ScIn w a c a2 c2 qs ts) (hz : w.heap.size ≤ w'.heap.size) (hb : ∀ k, k < w.heap.size → w'.heap[k]? = w.heap[k]?) : ScIn w' a c a2 c2 qs ts := by
  refine ⟨h.v1, h.v2, ?_, h.s2.of_heap hz hb, h.rc⟩
  rcases h.s1 with h | ⟨b, off, ha, hl, hc⟩
  · exact .inl h
  · refine .inr ⟨b, off, ha, by omega, fun k x hx => ?_⟩
    obtain ⟨h1, h2, ar, cr, h3, h4, h5⟩ := hc k x hx
    have key : ∀ o : Nat, w'.cell? ⟨b, o, none⟩ = w.cell? ⟨b, o, none⟩ := fun o => World.cell?_of_block (w := w) (a := ⟨b, o, none⟩) (hb b hl)
    exact ⟨(key _).trans h1, (key _).trans h2, ar, cr, (key _).trans h3, h4, h5.of_heap hz hb⟩
/-- The arguments of a law: the blocks are none of theirs. -/
theorem ScF.arg {X : Nat → Prop} {w : World} {s : St} {a : Option Addr} {d : Nat} {b : Option Addr} {e : Nat} (h : ScIn w a d b e s.qs s.ts) (hx : ∀ k, X k → w.heap.size ≤ k) {w' : World} (hb : Below w.heap.size w w') : ScF X w' s a d b e :=
  fun W hz hW => h.of_heap (Nat.le_trans hb.size hz) fun k hk => (hW k (Nat.lt_of_lt_of_le hk hb.size) (fun h => by have := hx k h; omega)).trans (hb.block k hk)
theorem ScF.owned {X : Nat → Prop} {z : Nat} {s : St} {g d : Nat} {b : Option Addr} {e : Nat} {w : World} (h : Owned z s g d b e w) (hok : Ok s) (hx : ∀ k, X k → k < z ∧ ∃ cur : Array Value, w.heap[k]? = some (.cells cur 25 (0, 0))) : ScF X w s (some ⟨g, 0, none⟩) d b e := by
  intro W hz hW
  obtain ⟨B, b0, rs, hB, ho⟩ := h
  have hb0 := ho.b0B
  refine (ho.same (w' := W) fun k cur' t hk ht => ?_).scIn (short_of_ok hok)
  refine hW k (Array.getElem?_eq_some_iff.1 hk).1 ?_
  intro hX
  obtain ⟨hkz, cur, hr⟩ := hx k hX
  rw [hr] at hk
  simp at hk
  rcases ht with ht | ht | ht | ht
  · omega
  · exact absurd (hk.2.trans ht) (by decide)
  · exact absurd (hk.2.trans ht) (by decide)
  · exact absurd (hk.2.trans ht) (by decide)
/-- What done hands back. -/
def DnR (X : Nat → Prop) (n m : Nat) (q : Int) (s : St) (K N : Int) (w : World) (y : Ending) (w' : World) : Prop :=
  ∃ (s' : St) (a : Option Addr) (d : Nat) (b : Option Addr) (e : Nat), Spec s K N s' ∧ y = .returned (.agg #[.slice a n d, .slice b s'.ts.length e, .int .i64 q]) ∧ Below w.heap.size w w' ∧ ScF X w' s' a d b e
set_option maxHeartbeats 4000000 in
set_option maxRecDepth 100000 in
theorem done_o (a : Option Addr) (n0 c : Nat) (a2 : Option Addr) (m0 c2 : Nat) (q0 : Int) (K N P : Int) (hK : K < 0 ∨ 8 < K) (w : World) :
    Calls Try.prog 21 #[.agg #[.slice a n0 c, .slice a2 m0 c2, .int .i64 q0], .agg #[.int .i64 K, .int .i64 N, .int .i64 P]] w fun y w' => y = .returned (.agg #[.slice a n0 c, .slice a2 m0 c2, .int .i64 q0]) ∧ Below w.heap.size w w' := by
  have h0 : (K == 0) = false := by simp; omega
  have h1 : (K == 1) = false := by simp; omega
  have h2 : (K == 2) = false := by simp; omega
  have h3 : (K == 3) = false := by simp; omega
  have h4 : (K == 4) = false := by simp; omega
  have h5 : (K == 5) = false := by simp; omega
  have h6 : (K == 6) = false := by simp; omega
  have h7 : (K == 7) = false := by simp; omega
  have h8 : (K == 8) = false := by simp; omega
  clear hK
  have HK := ((((Kw.start w).box (vs := [.slice a n0 c, .slice a2 m0 c2, .int .i64 q0]) (t := 25)).box (vs := [.int .i64 K, .int .i64 N, .int .i64 P]) (t := 42)).box (vs := [.slice none 0 0, .slice none 0 0, .int .i64 0]) (t := 25)).box (vs := [.slice a n0 c, .slice a2 m0 c2, .int .i64 q0]) (t := 25)
  simp only [World.size_alloc] at HK
  go_enter Try.func21, Try.ntmps21
  go_upto_region 3 with fail
  obtain ⟨W, hW⟩ : ∃ W, (((w.alloc (.cells #[.slice a n0 c, .slice a2 m0 c2, .int .i64 q0] 25)).alloc (.cells #[.int .i64 K, .int .i64 N, .int .i64 P] 42)).alloc (.cells #[.slice none 0 0, .slice none 0 0, .int .i64 0] 25)).alloc (.cells #[.slice a n0 c, .slice a2 m0 c2, .int .i64 q0] 25) = W := ⟨_, rfl⟩
  rw [hW] at HK ⊢
  clear hW
  have q_0 := HK.get 2 0 rfl rfl
  have g2 := HK.row 3 rfl
  have g4 := HK.row 1 rfl
  obtain ⟨r0, r1, r2, s0, s1, s2, rl⟩ := row3 g2
  obtain ⟨t0, t1, t2, f0, f1, f2, tl⟩ := row3 g4
  have gU := set3_row g4 (.slice a n0 c) (.slice a2 m0 c2) (.int .i64 q0)
  have hBU := Lib.hid (set3_below HK.base (x := w.heap.size + 1 + 1) (by omega) (.slice a n0 c) (.slice a2 m0 c2) (.int .i64 q0))
  obtain ⟨u0, u1, u2, _⟩ := row3 gU
  clear g4 g2 gU HK
  go_wp2
  exact bodyPost_ret (v := .agg #[.slice a n0 c, .slice a2 m0 c2, .int .i64 q0]) (by simp [results, Try.results21, go_sem, u0, u1, u2]) rfl ⟨rfl, hBU.out⟩
/-- A processor's number, or none. -/
theorem cpu_or (k : Int) (n : Nat) : (∃ c : Nat, k = c ∧ c < n) ∨ inB k 0 ((n : Int) - 1) = false := by
  cases h : inB k 0 ((n : Int) - 1) with
  | false => exact .inr rfl
  | true => obtain ⟨h1, h2⟩ := inB_out h; exact .inl ⟨k.toNat, by omega, by omega⟩
theorem done_any (s : St) (hok : Ok s) (K N P : Int) (X : Nat → Prop) (w : World) (hr : ∀ k, X k → ∃ cur : Array Value, w.heap[k]? = some (.cells cur 25 (0, 0))) (a : Option Addr) (d : Nat) (b : Option Addr) (e : Nat) (hs : ScF X w s a d b e) :
    Calls Try.prog 21 #[.agg #[.slice a s.qs.length d, .slice b s.ts.length e, .int .i64 s.q], .agg #[.int .i64 K, .int .i64 N, .int .i64 P]] w (DnR X s.qs.length s.ts.length s.q s K N w) := by
  have hck := chk_of_ok hok
  have bad : ∀ {y : Ending} {w' : World}, y = .returned (.agg #[.slice a s.qs.length d, .slice b s.ts.length e, .int .i64 s.q]) ∧ Below w.heap.size w w' → DnR X s.qs.length s.ts.length s.q s K N w y w' :=
    fun h => ⟨s, a, d, b, e, spec_same hok _ _, h.1, h.2, hs.below h.2⟩
  have good : ∀ {s' : St} {y : Ending} {w' : World}, Spec s K N s' → DnAt s.qs.length s'.ts.length s.q s' w y w' → DnR X s.qs.length s.ts.length s.q s K N w y w' := by
    intro s' y w' hsp h
    obtain ⟨g, d', b', e', h1, h2, h3⟩ := h
    exact ⟨s', _, d', b', e', hsp, h1, h2, ScF.owned h3 hsp.1 fun k hk => by
      obtain ⟨cur, hc⟩ := hr k hk
      have hx := (Array.getElem?_eq_some_iff.1 hc).1
      exact ⟨hx, cur, (h2.block k hx).trans hc⟩⟩
  have cv : ∀ W, Below w.heap.size w W → ScIn W a d b e s.qs s.ts := fun W hW => hs.at_.below hW
  have r3 : ∀ {s' : St} {r : Value} {W : World} {y : Ending} {w' : World}, Spec s K N s' → Res3 s' r W y w' → RtAt s.qs.length s'.ts.length s.q s' r W y w' := fun hsp h => RtAt.of h hsp.2.1 rfl hsp.2.2.2.2.1
  have r2 : ∀ {s' : St} {W : World} {y : Ending} {w' : World}, Spec s K N s' → Res2 s' W y w' → Rt2 s.qs.length s'.ts.length s.q s' W y w' := by
    rintro s' W y w' hsp ⟨g, d', b', e', h1, _, h3, h4⟩
    rw [hsp.2.1, hsp.2.2.2.2.1] at h1
    exact ⟨g, d', b', e', h1, h3, h4⟩
  by_cases k0 : K = 0
  · subst k0
    rcases cpu_or N s.qs.length with ⟨c, rfl, hc⟩ | hc
    · cases hp : inB P 0 7 with
      | false => exact (done0_e a _ d b _ e s.q (.int .i64 0) 1 (by simp) c P w fun W hW => add_q a d b e s.qs s.ts s.q P c W (cv W hW) hck hc hp).mono fun _ _ h => bad h
      | true =>
        by_cases hm : s.ts.length < 16
        · have sp := spec_add hok hc hm (inB_out hp) 0 c
          exact (done0_y a _ d b _ e s.q s.qs.length _ s.q (addM s P c) _ c P w fun W hW => (add_y a d b e s.qs s.ts s.q P c W (cv W hW) hck hc hp hm).mono fun _ _ h => r3 sp h).mono fun _ _ h => good sp h
        · exact (done0_e a _ d b _ e s.q (.int .i64 0) 2 (by simp) c P w fun W hW => add_l a d b e s.qs s.ts s.q P c W (cv W hW) hck hc hp hm).mono fun _ _ h => bad h
    · exact (done0_e a _ d b _ e s.q (.int .i64 0) 52 (by simp) N P w fun W hW => add_p a d b e s.qs s.ts s.q P N W (cv W hW) hck hc).mono fun _ _ h => bad h
  by_cases k1 : K = 1
  · subst k1
    rcases cpu_or N s.ts.length with ⟨c, rfl, hc⟩ | hc
    · by_cases hst : (thOf s.ts (c : Int)).st = 1 ∨ (thOf s.ts (c : Int)).st = 2 ∨ (thOf s.ts (c : Int)).st = 3
      · have sp := spec_leave hok hc (.inr rfl) (K := 1) (by decide)
        exact (done1_y a _ d b _ e s.q s.qs.length _ s.q (leaveM s c 4) c P w fun W hW => (end_y a d b e s.qs s.ts s.q c W (cv W hW) hck hc hst).mono fun _ _ h => r2 sp h).mono fun _ _ h => good sp h
      · simp only [not_or] at hst
        exact (done1_e a _ d b _ e s.q 51 (by simp) c P w fun W hW => end_p a d b e s.qs s.ts s.q c W (cv W hW) hck (.inr ⟨c, rfl, hc, by simp [hst]⟩)).mono fun _ _ h => bad h
    · exact (done1_e a _ d b _ e s.q 51 (by simp) N P w fun W hW => end_p a d b e s.qs s.ts s.q N W (cv W hW) hck (.inl hc)).mono fun _ _ h => bad h
  by_cases k2 : K = 2
  · subst k2
    rcases cpu_or N s.ts.length with ⟨c, rfl, hc⟩ | hc
    · by_cases hst : (thOf s.ts (c : Int)).st = 1 ∨ (thOf s.ts (c : Int)).st = 2
      · have sp := spec_leave hok hc (.inl rfl) (K := 2) (by decide)
        exact (done2_y a _ d b _ e s.q s.qs.length _ s.q (leaveM s c 3) c P w fun W hW => (block_y a d b e s.qs s.ts s.q c W (cv W hW) hck hc hst).mono fun _ _ h => r2 sp h).mono fun _ _ h => good sp h
      · simp only [not_or] at hst
        exact (done2_e a _ d b _ e s.q 51 (by simp) c P w fun W hW => block_p a d b e s.qs s.ts s.q c W (cv W hW) hck (.inr ⟨c, rfl, hc, by simp [hst]⟩)).mono fun _ _ h => bad h
    · exact (done2_e a _ d b _ e s.q 51 (by simp) N P w fun W hW => block_p a d b e s.qs s.ts s.q N W (cv W hW) hck (.inl hc)).mono fun _ _ h => bad h
  by_cases k3 : K = 3
  · subst k3
    rcases cpu_or N s.ts.length with ⟨c, rfl, hc⟩ | hc
    · by_cases hst : (thOf s.ts (c : Int)).st = 3
      · have sp := spec_wake hok hc (K := 3) (by decide)
        obtain ⟨cu, hcu, _⟩ := hok.cpu hc
        exact (done3_y a _ d b _ e s.q s.qs.length _ s.q (toEndM s c) _ c P w fun W hW => (wake_y a d b e s.qs s.ts s.q c W (cv W hW) hck cu hc hcu hst).mono fun _ _ h => r3 sp h).mono fun _ _ h => good sp h
      · exact (done3_e a _ d b _ e s.q (.bool false) 51 (by simp) c P w fun W hW => wake_p a d b e s.qs s.ts s.q c W (cv W hW) hck (.inr ⟨c, rfl, hc, by simp [hst]⟩)).mono fun _ _ h => bad h
    · exact (done3_e a _ d b _ e s.q (.bool false) 51 (by simp) N P w fun W hW => wake_p a d b e s.qs s.ts s.q N W (cv W hW) hck (.inl hc)).mono fun _ _ h => bad h
  by_cases k4 : K = 4
  · subst k4
    rcases cpu_or N s.ts.length with ⟨c, rfl, hc⟩ | hc
    · by_cases hst : (thOf s.ts (c : Int)).st = 1 ∨ (thOf s.ts (c : Int)).st = 2 ∨ (thOf s.ts (c : Int)).st = 3
      · cases hp : inB P 0 7 with
        | true =>
          have sp := spec_pri hok hc (inB_out hp) (K := 4) (by decide)
          exact (done4_y a _ d b _ e s.q s.qs.length _ s.q (setPriM s c P) c P w fun W hW => (setPri_y a d b e s.qs s.ts s.q c P W (cv W hW) hck hc ⟨hst, hp⟩).mono fun _ _ h => r2 sp h).mono fun _ _ h => good sp h
        | false => exact (done4_e a _ d b _ e s.q 1 (by simp) c P w fun W hW => setPri_q a d b e s.qs s.ts s.q c P W (cv W hW) hck hc hst hp).mono fun _ _ h => bad h
      · simp only [not_or] at hst
        exact (done4_e a _ d b _ e s.q 51 (by simp) c P w fun W hW => setPri_p a d b e s.qs s.ts s.q c P W (cv W hW) hck (.inr ⟨c, rfl, hc, by simp [hst]⟩)).mono fun _ _ h => bad h
    · exact (done4_e a _ d b _ e s.q 51 (by simp) N P w fun W hW => setPri_p a d b e s.qs s.ts s.q N P W (cv W hW) hck (.inl hc)).mono fun _ _ h => bad h
  by_cases k5 : K = 5
  · subst k5
    rcases cpu_or N s.qs.length with ⟨c, rfl, hc⟩ | hc
    · have sp := spec_switch hok hc
      exact (done5_y a _ d b _ e s.q s.qs.length _ s.q (switchM s c) _ c P w fun W hW => (switch_y a d b e s.qs s.ts s.q c W (cv W hW) hck hc).mono fun _ _ h => r3 sp h).mono fun _ _ h => good sp h
    · exact (done5_e a _ d b _ e s.q (.int .i64 0) 52 (by simp) N P w fun W hW => switch_p a d b e s.qs s.ts s.q N W (cv W hW) hck hc).mono fun _ _ h => bad h
  by_cases k6 : K = 6
  · subst k6
    rcases cpu_or N s.qs.length with ⟨c, rfl, hc⟩ | hc
    · have sp : Spec s 6 c (tickM s c) := spec_left (tick_ok hok hc) 6 c
      exact (done6_y a _ d b _ e s.q s.qs.length _ s.q (tickM s c) _ c P w fun W hW => (tick_y a d b e s.qs s.ts s.q c W (cv W hW) hck hc).mono fun _ _ h => r3 sp h).mono fun _ _ h => good sp h
    · exact (done6_e a _ d b _ e s.q (.bool false) 52 (by simp) N P w fun W hW => tick_p a d b e s.qs s.ts s.q N W (cv W hW) hck hc).mono fun _ _ h => bad h
  by_cases k7 : K = 7
  · subst k7
    rcases cpu_or N s.qs.length with ⟨c, rfl, hc⟩ | hc
    · by_cases hrn : (quOf s.qs (c : Int)).run = -1
      · exact (done7_e a _ d b _ e s.q 52 (by simp) c P w fun W hW => yield_q a d b e s.qs s.ts s.q c W (cv W hW) hck hc hrn).mono fun _ _ h => bad h
      · have sp : Spec s 7 c (yieldM s c) := spec_left (yield_ok hok hc) 7 c
        exact (done7_y a _ d b _ e s.q s.qs.length _ s.q (yieldM s c) c P w fun W hW => (yield_y a d b e s.qs s.ts s.q c W (cv W hW) hck hc hrn).mono fun _ _ h => r2 sp h).mono fun _ _ h => good sp h
    · exact (done7_e a _ d b _ e s.q 52 (by simp) N P w fun W hW => yield_p a d b e s.qs s.ts s.q N W (cv W hW) hck hc).mono fun _ _ h => bad h
  by_cases k8 : K = 8
  · subst k8
    rcases cpu_or N s.qs.length with ⟨c, rfl, hc⟩ | hc
    · have sp := spec_steal hok hc 8 c
      exact (done8_y a _ d b _ e s.q s.qs.length _ s.q (stealM s c) _ c P w fun W hW => (steal_y a d b e s.qs s.ts s.q c W (cv W hW) hck hc).mono fun _ _ h => r3 sp h).mono fun _ _ h => good sp h
    · exact (done8_e a _ d b _ e s.q (.int .i64 0) 52 (by simp) N P w fun W hW => stealF_p a d b e s.qs s.ts s.q N W (cv W hW) hck hc).mono fun _ _ h => bad h
  exact (done_o a _ d b _ e s.q K N P (by omega) w).mono fun _ _ h => bad h
end Go.Proofs.Ytggikbcgijmhbaa
