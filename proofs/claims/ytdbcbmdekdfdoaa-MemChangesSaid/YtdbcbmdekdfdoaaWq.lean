/- WHAT IS PROVED: mem.write, for every access to a valid space: the space with the bytes replaced, or the fault. CONDITIONS: at most 4096 bytes. -/
import Derived.Test.YtdbcbmdekdfdoaaWr
namespace Go.Proofs.Ytdbcbmdekdfdoaa
open Go Go.RowKit Go.QrBits Go.QrMem

/-- A row that lies in another block than the one that has turned. -/
theorem ownsRow_ne {g base e size n : Nat} {v : Value} {xs : List Value} {W W' : World} (h : W.ownsRow base e size v n xs) (ht : Turned g (g + 1) W W') (hne : v.ownBlock ≠ some g) : W'.ownsRow base e size v n xs := by
  obtain ⟨h1, (h2 | ⟨b, cap, cur, h3, h4, h5, h6⟩)⟩ := h
  · exact ⟨h1, .inl h2⟩
  · refine ⟨h1, .inr ⟨b, cap, cur, h3, h4, ht.blk h5 ?_, h6⟩⟩
    subst h3
    have : b ≠ g := fun e => hne (by simp [Value.ownBlock, e])
    omega
theorem rows_apart' {w : World} {base base' n n2 : Nat} {e e2 : TypeId} {v v2 : Value} {xs ys : List Value} {g : Nat} (h : w.ownsRow base e 1 v n xs) (h2 : w.ownsRow base' e2 1 v2 n2 ys) (he : e ≠ e2) (hg : v.ownBlock = some g) : v2.ownBlock ≠ some g := by
  obtain ⟨_, (⟨h1, _⟩ | ⟨g1, cap, cur, h1, _, h3, _⟩)⟩ := h
  · subst h1; cases hg
  · subst h1
    obtain rfl : g1 = g := by simpa [Value.ownBlock] using hg
    obtain ⟨_, (⟨k1, _⟩ | ⟨g2, cap2, cur2, k1, _, k3, _⟩)⟩ := h2
    · subst k1; simp [Value.ownBlock]
    · subst k1
      intro e
      simp only [Value.ownBlock, Option.some.injEq] at e
      subst e
      rw [h3] at k3; cases k3; exact he rfl
/-- The block of a row of one's own, or one that is not there yet. -/
theorem own_blk {w : World} {base n c : Nat} {e : TypeId} {a : Option Addr} {xs : List Value} (h : w.ownsRow base e 1 (.slice a n c) n xs) (k : Nat) : ∃ g : Nat, (∀ x, a = some x → x = ⟨g, 0, none⟩) ∧ ((a = none ∧ g = k) ∨ (base ≤ g ∧ g < w.heap.size ∧ (Value.slice a n c).ownBlock = some g)) := by
  obtain ⟨_, (⟨h1, _⟩ | ⟨g1, cap, cur, h1, h2, h3, _⟩)⟩ := h
  · cases h1; exact ⟨k, (fun x h => by cases h), .inl ⟨rfl, rfl⟩⟩
  · cases h1
    exact ⟨g1, (fun x h => by cases h; rfl), .inr ⟨h2, (Array.getElem?_eq_some_iff.1 h3).1, rfl⟩⟩
/-- What write hands back where there is no fault. -/
def WritePost (perm bytes : List Int) (w : World) (e : Ending) (w' : World) : Prop :=
  ∃ v : Value, e = .returned (.tuple #[v, .agg #[.int .i64 0, .int .i64 0]]) ∧ OwnSp w.heap.size w' v perm bytes ∧ Below w.heap.size w w'
set_option maxHeartbeats 4000000 in
set_option maxRecDepth 100000 in
theorem write_f (t need : Int) (a : Option Addr) (c : Nat) (a2 : Option Addr) (c2 : Nat) (ab : Option Addr) (cb : Nat) (perm bytes bs : List Int) (w : World) (hs : SpIn w a c a2 c2 perm bytes) (hsb : SlAt w ab (bV bs)) (hc : chk perm bytes.length = true) (hn : bs.length ≤ 4096) (ht : I64 t) (hk : kN perm bytes t need bs.length < bs.length) :
    Calls Try.prog 64 #[.agg #[.slice a perm.length c, .slice a2 bytes.length c2], .int .i64 t, .slice ab bs.length cb, .int .i64 need] w fun e w' => e = .returned (.tuple #[.agg #[.slice none 0 0, .slice none 0 0], .agg #[(.int .i64 (fK perm bytes t need bs.length)), (.int .i64 (fX perm bytes t need bs.length))]]) ∧ Below w.heap.size w w' := by
  have hmf : ∀ (fn : Fn) (first cap : Array Value) (w : World), (Instr.makeFunc fn first cap).run Try.prog w = .ok (.func fn first cap) w := fun _ _ _ _ => rfl
  have HC := Lib.hid hc
  have HS := Lib.hid hs
  have HT := Lib.hid ht
  have HB := Lib.hid hsb
  clear hc hs ht hsb
  go_enter Try.func64, Try.ntmps64
  have HK := Kw.start w
  go_wp2_with fail
  replace HK := HK.box (vs := [.slice a perm.length c, .slice a2 bytes.length c2]) (t := 25)
  replace HK := HK.box (vs := [.int .i64 t]) (t := 2)
  replace HK := HK.box (vs := [.slice ab bs.length cb]) (t := 23)
  replace HK := HK.box (vs := [.int .i64 need]) (t := 3)
  replace HK := HK.box (vs := [.slice none 0 0, .slice none 0 0]) (t := 25)
  replace HK := HK.box (vs := [.int .i64 0, .int .i64 0]) (t := 34)
  simp only [World.size_alloc] at HK
  refine (clone_c _ _ _ _ _ _ _ (HS.out.below HK.base).v1 (HS.out.below HK.base).v2 (HS.out.below HK.base).s1 (HS.out.below HK.base).s2 (chk_le HC.out).1 (chk_le HC.out).2).mono ?_
  rintro e w1 ⟨v, rfl, ⟨a', c', a2', c2', rfl, ho1, ho2⟩, hq⟩
  replace HK := HK.below hq
  have rf_0 := HK.get 0 0 rfl rfl
  have rf_f0 := HK.fz 0 0 rfl
  have rf_1 := HK.get 0 1 rfl rfl
  have rf_f1 := HK.fz 0 1 rfl
  have rf_s := HK.lt 0 rfl
  have r_0 := HK.get 1 0 rfl rfl
  have r_f0 := HK.fz 1 0 rfl
  have r_1 := HK.get 1 1 rfl rfl
  have r_f1 := HK.fz 1 1 rfl
  have r_s := HK.lt 1 rfl
  have pq_0 := HK.get 2 0 rfl rfl
  have pq_s := HK.lt 2 rfl
  have pb_0 := HK.get 3 0 rfl rfl
  have pb_s := HK.lt 3 rfl
  have pt_0 := HK.get 4 0 rfl rfl
  have pt_s := HK.lt 4 rfl
  have p_0 := HK.get 5 0 rfl rfl
  have p_1 := HK.get 5 1 rfl rfl
  have p_s := HK.lt 5 rfl
  go_wp2_with fail
  replace HK := HK.box (vs := [.slice a' perm.length c', .slice a2' bytes.length c2']) (t := 25)
  clear rf_0 rf_f0 rf_1 rf_f1 rf_s r_0 r_f0 r_1 r_f1 r_s pq_0 pq_s pb_0 pb_s pt_0 pt_s p_0 p_1 p_s
  have hz1 := HK.lt 6 rfl
  have out_0 := HK.get 0 0 rfl rfl
  have out_1 := HK.get 0 1 rfl rfl
  have out_s := HK.lt 0 rfl
  have rf_0 := HK.get 1 0 rfl rfl
  have rf_f0 := HK.fz 1 0 rfl
  have rf_1 := HK.get 1 1 rfl rfl
  have rf_f1 := HK.fz 1 1 rfl
  have rf_s := HK.lt 1 rfl
  have r_0 := HK.get 2 0 rfl rfl
  have r_f0 := HK.fz 2 0 rfl
  have r_1 := HK.get 2 1 rfl rfl
  have r_f1 := HK.fz 2 1 rfl
  have r_s := HK.lt 2 rfl
  have pq_0 := HK.get 3 0 rfl rfl
  have pq_s := HK.lt 3 rfl
  have pb_0 := HK.get 4 0 rfl rfl
  have pb_s := HK.lt 4 rfl
  have pt_0 := HK.get 5 0 rfl rfl
  have pt_s := HK.lt 5 rfl
  have p_0 := HK.get 6 0 rfl rfl
  have p_1 := HK.get 6 1 rfl rfl
  have p_s := HK.lt 6 rfl
  have hpt : w.heap.size + 6 ≤ w1.heap.size := by have := hq.size; simp at this; omega
  have hr2 : (w1.alloc (.cells #[.slice a' perm.length c', .slice a2' bytes.length c2'] 25)).ownsRow (w.heap.size + 6) 5 1 (.slice a2' bytes.length c2') bytes.length (bV bytes) := (ownsRow_base ho2 (by simp)).alloc _
  have hr1 : (w1.alloc (.cells #[.slice a' perm.length c', .slice a2' bytes.length c2'] 25)).ownsRow (w.heap.size + 6) 3 1 (.slice a' perm.length c') perm.length (iV perm) := (ownsRow_base ho1 (by simp)).alloc _
  obtain ⟨g, hg1, hg2⟩ := own_blk hr2 ((w1.alloc (.cells #[.slice a' perm.length c', .slice a2' bytes.length c2'] 25)).heap.size + 1)
  have hgb : w.heap.size + 6 ≤ g ∧ g ≠ w1.heap.size := by
    rcases hg2 with ⟨_, h⟩ | ⟨h1, h2, h3⟩
    · simp at h; omega
    · refine ⟨h1, fun e => ?_⟩
      have : (Value.slice a2' bytes.length c2').ownBlock = some w1.heap.size := by rw [h3, e]
      have := ho2.lt _ this; omega
  have hne1 : (Value.slice a' perm.length c').ownBlock ≠ some g := by
    rcases hg2 with ⟨_, h⟩ | ⟨h1, h2, h3⟩
    · intro e; have := hr1.lt _ e; omega
    · exact rows_apart' hr2 hr1 (by decide) h3
  have HG := Lib.hid hg1
  have HG2 := Lib.hid hg2
  clear hg1 hg2
  refine (fault_write w.heap.size (w.heap.size + 1) (w.heap.size + 1 + 1) (w.heap.size + 1 + 1 + 1) w1.heap.size g (w.heap.size + 6) t need a c a2 c2 ab cb a2' c2' (.slice a' perm.length c') perm bytes bs w _ HC.out hn HT.out p_0 p_1 pt_0 pb_0 pq_0 out_0 out_1 hr2 HG.out HS.out HB.out HK.base (by omega) (HG2.out.imp (fun h => ⟨h.1, h.2⟩) (fun h => h.2.1)) (by omega)).mono ?_
  rintro e w3 ⟨rfl, ho3, htd⟩
  have hrr := htd.blk (HK.row 2 rfl) (.inl (by omega))
  have hrf := htd.blk (HK.row 1 rfl) (.inl (by omega))
  have hro := htd.blk (HK.row 0 rfl) (by omega)
  have ho4 := ownsRow_ne hr1 htd hne1
  have hb3 : Below w.heap.size w w3 := HK.base.trans (htd.below (by have := HK.size; omega) (by omega))
  clear out_0 out_1 out_s rf_0 rf_f0 rf_1 rf_f1 rf_s r_0 r_f0 r_1 r_f1 r_s pq_0 pq_s pb_0 pb_s pt_0 pt_s p_0 p_1 p_s
  obtain ⟨r_0, r_1, r_f0, r_f1, r_s⟩ := row2 hrr
  obtain ⟨rf_0, rf_1, rf_f0, rf_f1, rf_s⟩ := row2 hrf
  obtain ⟨o_0, o_1, o_f0, o_f1, o_s⟩ := row2 hro
  clear hrr hrf hro HK htd hr1 hr2 ho1 ho2 hne1
  have hne := fK_ne (perm := perm) (bytes := bytes) (t := t) (need := need) (n := bs.length) hk
  have HH := Lib.hid hk
  clear hk
  obtain ⟨g1, g2⟩ := put2 (.slice none 0 0) (.slice none 0 0) r_0 r_1
  obtain ⟨g3, g4⟩ := put2 (.int .i64 (fK perm bytes t need bs.length)) (.int .i64 (fX perm bytes t need bs.length)) (((set_ne (w3.setCell ⟨w.heap.size + 1 + 1 + 1 + 1, 0, none⟩ (.slice none 0 0)) (b := w.heap.size + 1 + 1 + 1 + 1 + 1) (g := w.heap.size + 1 + 1 + 1 + 1) 0 1 (.slice none 0 0) (by omega)).trans (set_ne _ 0 0 (.slice none 0 0) (by omega))).trans rf_0) (((set_ne (w3.setCell ⟨w.heap.size + 1 + 1 + 1 + 1, 0, none⟩ (.slice none 0 0)) (b := w.heap.size + 1 + 1 + 1 + 1 + 1) (g := w.heap.size + 1 + 1 + 1 + 1) 1 1 (.slice none 0 0) (by omega)).trans (set_ne _ 1 0 (.slice none 0 0) (by omega))).trans rf_1)
  go_wp2
  go_region
  go_wp2
  refine bodyPost_ret (v := .tuple #[.agg #[.slice none 0 0, .slice none 0 0], .agg #[(.int .i64 (fK perm bytes t need bs.length)), (.int .i64 (fX perm bytes t need bs.length))]]) (by simp [results, Try.results64, go_sem, g1, g2, g3, g4, r_s, rf_s]) rfl ⟨rfl, ?_⟩
  exact (((((hb3.setCell (by show _ ≤ w.heap.size + 1 + 1 + 1 + 1; omega) _).setCell (by show _ ≤ w.heap.size + 1 + 1 + 1 + 1; omega) _).setCell (by show _ ≤ w.heap.size + 1 + 1 + 1 + 1 + 1; omega) _).setCell (by show _ ≤ w.heap.size + 1 + 1 + 1 + 1 + 1; omega) _).alloc (by simp; omega) _).drew
set_option maxHeartbeats 4000000 in
set_option maxRecDepth 100000 in
theorem write_y (t need : Int) (a : Option Addr) (c : Nat) (a2 : Option Addr) (c2 : Nat) (ab : Option Addr) (cb : Nat) (perm bytes bs : List Int) (w : World) (hs : SpIn w a c a2 c2 perm bytes) (hsb : SlAt w ab (bV bs)) (hc : chk perm bytes.length = true) (hn : bs.length ≤ 4096) (ht : I64 t) (hk : kN perm bytes t need bs.length = bs.length) :
    Calls Try.prog 64 #[.agg #[.slice a perm.length c, .slice a2 bytes.length c2], .int .i64 t, .slice ab bs.length cb, .int .i64 need] w (WritePost perm (wrB bytes t bs bs.length) w) := by
  have hmf : ∀ (fn : Fn) (first cap : Array Value) (w : World), (Instr.makeFunc fn first cap).run Try.prog w = .ok (.func fn first cap) w := fun _ _ _ _ => rfl
  have HC := Lib.hid hc
  have HS := Lib.hid hs
  have HT := Lib.hid ht
  have HB := Lib.hid hsb
  clear hc hs ht hsb
  go_enter Try.func64, Try.ntmps64
  have HK := Kw.start w
  go_wp2_with fail
  replace HK := HK.box (vs := [.slice a perm.length c, .slice a2 bytes.length c2]) (t := 25)
  replace HK := HK.box (vs := [.int .i64 t]) (t := 2)
  replace HK := HK.box (vs := [.slice ab bs.length cb]) (t := 23)
  replace HK := HK.box (vs := [.int .i64 need]) (t := 3)
  replace HK := HK.box (vs := [.slice none 0 0, .slice none 0 0]) (t := 25)
  replace HK := HK.box (vs := [.int .i64 0, .int .i64 0]) (t := 34)
  simp only [World.size_alloc] at HK
  refine (clone_c _ _ _ _ _ _ _ (HS.out.below HK.base).v1 (HS.out.below HK.base).v2 (HS.out.below HK.base).s1 (HS.out.below HK.base).s2 (chk_le HC.out).1 (chk_le HC.out).2).mono ?_
  rintro e w1 ⟨v, rfl, ⟨a', c', a2', c2', rfl, ho1, ho2⟩, hq⟩
  replace HK := HK.below hq
  have rf_0 := HK.get 0 0 rfl rfl
  have rf_f0 := HK.fz 0 0 rfl
  have rf_1 := HK.get 0 1 rfl rfl
  have rf_f1 := HK.fz 0 1 rfl
  have rf_s := HK.lt 0 rfl
  have r_0 := HK.get 1 0 rfl rfl
  have r_f0 := HK.fz 1 0 rfl
  have r_1 := HK.get 1 1 rfl rfl
  have r_f1 := HK.fz 1 1 rfl
  have r_s := HK.lt 1 rfl
  have pq_0 := HK.get 2 0 rfl rfl
  have pq_s := HK.lt 2 rfl
  have pb_0 := HK.get 3 0 rfl rfl
  have pb_s := HK.lt 3 rfl
  have pt_0 := HK.get 4 0 rfl rfl
  have pt_s := HK.lt 4 rfl
  have p_0 := HK.get 5 0 rfl rfl
  have p_1 := HK.get 5 1 rfl rfl
  have p_s := HK.lt 5 rfl
  go_wp2_with fail
  replace HK := HK.box (vs := [.slice a' perm.length c', .slice a2' bytes.length c2']) (t := 25)
  clear rf_0 rf_f0 rf_1 rf_f1 rf_s r_0 r_f0 r_1 r_f1 r_s pq_0 pq_s pb_0 pb_s pt_0 pt_s p_0 p_1 p_s
  have hz1 := HK.lt 6 rfl
  have out_0 := HK.get 0 0 rfl rfl
  have out_1 := HK.get 0 1 rfl rfl
  have out_s := HK.lt 0 rfl
  have rf_0 := HK.get 1 0 rfl rfl
  have rf_f0 := HK.fz 1 0 rfl
  have rf_1 := HK.get 1 1 rfl rfl
  have rf_f1 := HK.fz 1 1 rfl
  have rf_s := HK.lt 1 rfl
  have r_0 := HK.get 2 0 rfl rfl
  have r_f0 := HK.fz 2 0 rfl
  have r_1 := HK.get 2 1 rfl rfl
  have r_f1 := HK.fz 2 1 rfl
  have r_s := HK.lt 2 rfl
  have pq_0 := HK.get 3 0 rfl rfl
  have pq_s := HK.lt 3 rfl
  have pb_0 := HK.get 4 0 rfl rfl
  have pb_s := HK.lt 4 rfl
  have pt_0 := HK.get 5 0 rfl rfl
  have pt_s := HK.lt 5 rfl
  have p_0 := HK.get 6 0 rfl rfl
  have p_1 := HK.get 6 1 rfl rfl
  have p_s := HK.lt 6 rfl
  have hpt : w.heap.size + 6 ≤ w1.heap.size := by have := hq.size; simp at this; omega
  have hr2 : (w1.alloc (.cells #[.slice a' perm.length c', .slice a2' bytes.length c2'] 25)).ownsRow (w.heap.size + 6) 5 1 (.slice a2' bytes.length c2') bytes.length (bV bytes) := (ownsRow_base ho2 (by simp)).alloc _
  have hr1 : (w1.alloc (.cells #[.slice a' perm.length c', .slice a2' bytes.length c2'] 25)).ownsRow (w.heap.size + 6) 3 1 (.slice a' perm.length c') perm.length (iV perm) := (ownsRow_base ho1 (by simp)).alloc _
  obtain ⟨g, hg1, hg2⟩ := own_blk hr2 ((w1.alloc (.cells #[.slice a' perm.length c', .slice a2' bytes.length c2'] 25)).heap.size + 1)
  have hgb : w.heap.size + 6 ≤ g ∧ g ≠ w1.heap.size := by
    rcases hg2 with ⟨_, h⟩ | ⟨h1, h2, h3⟩
    · simp at h; omega
    · refine ⟨h1, fun e => ?_⟩
      have : (Value.slice a2' bytes.length c2').ownBlock = some w1.heap.size := by rw [h3, e]
      have := ho2.lt _ this; omega
  have hne1 : (Value.slice a' perm.length c').ownBlock ≠ some g := by
    rcases hg2 with ⟨_, h⟩ | ⟨h1, h2, h3⟩
    · intro e; have := hr1.lt _ e; omega
    · exact rows_apart' hr2 hr1 (by decide) h3
  have HG := Lib.hid hg1
  have HG2 := Lib.hid hg2
  clear hg1 hg2
  refine (fault_write w.heap.size (w.heap.size + 1) (w.heap.size + 1 + 1) (w.heap.size + 1 + 1 + 1) w1.heap.size g (w.heap.size + 6) t need a c a2 c2 ab cb a2' c2' (.slice a' perm.length c') perm bytes bs w _ HC.out hn HT.out p_0 p_1 pt_0 pb_0 pq_0 out_0 out_1 hr2 HG.out HS.out HB.out HK.base (by omega) (HG2.out.imp (fun h => ⟨h.1, h.2⟩) (fun h => h.2.1)) (by omega)).mono ?_
  rintro e w3 ⟨rfl, ho3, htd⟩
  have hrr := htd.blk (HK.row 2 rfl) (.inl (by omega))
  have hrf := htd.blk (HK.row 1 rfl) (.inl (by omega))
  have hro := htd.blk (HK.row 0 rfl) (by omega)
  have ho4 := ownsRow_ne hr1 htd hne1
  have hb3 : Below w.heap.size w w3 := HK.base.trans (htd.below (by have := HK.size; omega) (by omega))
  clear out_0 out_1 out_s rf_0 rf_f0 rf_1 rf_f1 rf_s r_0 r_f0 r_1 r_f1 r_s pq_0 pq_s pb_0 pb_s pt_0 pt_s p_0 p_1 p_s
  obtain ⟨r_0, r_1, r_f0, r_f1, r_s⟩ := row2 hrr
  obtain ⟨rf_0, rf_1, rf_f0, rf_f1, rf_s⟩ := row2 hrf
  obtain ⟨o_0, o_1, o_f0, o_f1, o_s⟩ := row2 hro
  clear hrr hrf hro HK htd hr1 hr2 ho1 ho2 hne1
  have hne := fK_eq (perm := perm) (bytes := bytes) (t := t) (need := need) (n := bs.length) hk
  have HH := Lib.hid hk
  clear hk
  obtain ⟨g1, g2⟩ := put2 (.slice a' perm.length c') (.slice a2' bytes.length c2') r_0 r_1
  obtain ⟨g3, g4⟩ := put2 (.int .i64 0) (.int .i64 0) (((set_ne (w3.setCell ⟨w.heap.size + 1 + 1 + 1 + 1, 0, none⟩ (.slice a' perm.length c')) (b := w.heap.size + 1 + 1 + 1 + 1 + 1) (g := w.heap.size + 1 + 1 + 1 + 1) 0 1 (.slice a2' bytes.length c2') (by omega)).trans (set_ne _ 0 0 (.slice a' perm.length c') (by omega))).trans rf_0) (((set_ne (w3.setCell ⟨w.heap.size + 1 + 1 + 1 + 1, 0, none⟩ (.slice a' perm.length c')) (b := w.heap.size + 1 + 1 + 1 + 1 + 1) (g := w.heap.size + 1 + 1 + 1 + 1) 1 1 (.slice a2' bytes.length c2') (by omega)).trans (set_ne _ 1 0 (.slice a' perm.length c') (by omega))).trans rf_1)
  go_wp2
  refine bodyPost_ret (v := .tuple #[.agg #[.slice a' perm.length c', .slice a2' bytes.length c2'], .agg #[.int .i64 0, .int .i64 0]]) (by simp [results, Try.results64, go_sem, g1, g2, g3, g4, r_s, rf_s]) rfl ⟨_, rfl, ⟨a', c', a2', c2', by rw [wrB_len], ?_, ?_⟩, ?_⟩
  · exact ownsRow_base ((ownsRow_setCell_below (ownsRow_setCell_below (ownsRow_setCell_below (ownsRow_setCell_below ho4 (by show w.heap.size + 1 + 1 + 1 + 1 < _; omega) _) (by show w.heap.size + 1 + 1 + 1 + 1 < _; omega) _) (by show w.heap.size + 1 + 1 + 1 + 1 + 1 < _; omega) _) (by show w.heap.size + 1 + 1 + 1 + 1 + 1 < _; omega) _).alloc _) (by omega)
  · rw [wrB_len]; rw [HH.out] at ho3; exact ownsRow_base ((ownsRow_setCell_below (ownsRow_setCell_below (ownsRow_setCell_below (ownsRow_setCell_below ho3 (by show w.heap.size + 1 + 1 + 1 + 1 < _; omega) _) (by show w.heap.size + 1 + 1 + 1 + 1 < _; omega) _) (by show w.heap.size + 1 + 1 + 1 + 1 + 1 < _; omega) _) (by show w.heap.size + 1 + 1 + 1 + 1 + 1 < _; omega) _).alloc _) (by omega)
  · exact ((((hb3.setCell (by show _ ≤ w.heap.size + 1 + 1 + 1 + 1; omega) _).setCell (by show _ ≤ w.heap.size + 1 + 1 + 1 + 1; omega) _).setCell (by show _ ≤ w.heap.size + 1 + 1 + 1 + 1 + 1; omega) _).setCell (by show _ ≤ w.heap.size + 1 + 1 + 1 + 1 + 1; omega) _).alloc (by simp; omega) _
end Go.Proofs.Ytdbcbmdekdfdoaa
