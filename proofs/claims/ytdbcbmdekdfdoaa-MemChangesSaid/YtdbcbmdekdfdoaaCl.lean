/- WHAT IS PROVED: slices.Clone of a slice of ints and of bytes, mem.clone, mem.permitting: copies of one's own. CONDITIONS: the slices' cells hold the lists; lengths of at most 4096. -/
import Derived.Test.YtdbcbmdekdfdoaaSl
import Derived.Deep.RegionHeld3
import Derived.RegionCalls
import Derived.Deep.RegionWith
import Derived.OwnWalk
namespace Go.Proofs.Ytdbcbmdekdfdoaa
open Go Go.RowKit Go.QrBits

theorem Try.info3 : (Try.prog.info? 3).map (fun i => (i.zero, i.size, i.bytes)) = some (some (.int .i64 0), 1, 8) := by kernel_rfl
theorem Try.info5 : (Try.prog.info? 5).map (fun i => (i.zero, i.size, i.bytes)) = some (some (.int .u8 0), 1, 1) := by kernel_rfl

/-- A slice value: nil is empty. -/
def SlV (a : Option Addr) (n c : Nat) : Prop := n ≤ c ∧ c ≤ maxLen ∧ (a = none → n = 0 ∧ c = 0)

theorem SlAt.news {w : World} {ad : Addr} {xs : List Value} (h : SlAt w (some ad) xs) : ∀ (j : Nat) (u : Value), xs[j]? = some u → w.cell? (ad.add j) = some u := by
  intro j u hu
  rcases h with rfl | ⟨b, off, ha, _, hc⟩
  · simp at hu
  · cases ha
    have : (⟨b, off, none⟩ : Addr).add j = ⟨b, off + j, none⟩ := by unfold Addr.add; simp
    rw [this]; exact hc j u hu
theorem iV_one (xs : List Int) : ∀ u ∈ iV xs, u.oneCell' = true := by
  intro u hu; simp only [iV, List.mem_map] at hu; obtain ⟨x, _, rfl⟩ := hu; rfl
theorem bV_one (xs : List Int) : ∀ u ∈ bV xs, u.oneCell' = true := by
  intro u hu; simp only [bV, List.mem_map] at hu; obtain ⟨x, _, rfl⟩ := hu; rfl

/-- A row of one's own is handed back. -/
def Cloned (e : TypeId) (xs : List Value) (w : World) (en : Ending) (w' : World) : Prop :=
  ∃ (a : Option Addr) (c : Nat), en = .returned (.slice a xs.length c) ∧ w'.ownsRow w.heap.size e 1 (.slice a xs.length c) xs.length xs ∧ Below w.heap.size w w'
theorem own_slice {w : World} {base e size n : Nat} {v : Value} {xs : List Value} (h : w.ownsRow base e size v n xs) : ∃ (a : Option Addr) (c : Nat), v = .slice a n c := by
  obtain ⟨_, (⟨rfl, rfl⟩ | ⟨g, cap, cur, rfl, _⟩)⟩ := h
  · exact ⟨_, _, rfl⟩
  · exact ⟨_, _, rfl⟩

set_option maxHeartbeats 1000000 in
set_option maxRecDepth 100000 in
theorem clone_i (a : Option Addr) (c : Nat) (xs : List Int) (w : World) (hv : SlV a xs.length c) (hs : SlAt w a (iV xs)) (hn : xs.length ≤ 4096) :
    Calls Try.prog 80 #[.slice a xs.length c] w (Cloned 3 (iV xs) w) := by
  have hnil := fun (w : World) (a : Option Addr) (n c n' c' : Nat) => Lib.run_eql_slice_nil (P := Try.prog) w 22 3 a n c n' c' Try.underlying22
  obtain ⟨_, _, hv3⟩ := hv; rename_i hv1 hv2; clear hv1 hv2
  rcases a with _ | ad
  · obtain ⟨h1, h2⟩ := hv3 rfl
    subst h2
    have : xs = [] := List.eq_nil_of_length_eq_zero h1
    subst this
    go_enter Try.func80, Try.ntmps80
    go_wp2
    go_ret
    exact ⟨_, _, rfl, World.ownsRow_nil _ _ _ _, Below.refl _ _⟩
  · obtain ⟨i0, hi, hz0, hz1, hz2⟩ := info_parts Try.info3
    have HV := Lib.hid hv3
    clear hv3
    have HS := Lib.hid (hs.below ((Below.refl _ w).alloc (Nat.le_refl _) (.cells #[] 3))).news
    clear hs
    go_enter Try.func80, Try.ntmps80
    go_wp2_with (at_builtin; refine wpList_append_own _ rfl _ _ 22 rfl w.heap.size 3 i0 (.int .i64 0) 1 8 Try.underlying22 hi hz0 hz1 hz2 rfl (by decide) _ _ _ rfl (World.ownsRow_made _ _ _ (by omega) (by decide) rfl) ad xs.length c (iV xs) rfl ?c1 ?c2 ?c3 ?c4 ?c5 ?c6 ?_)
    case c1 => simp [iV]
    case c2 => exact HS.out
    case c3 => exact iV_one xs
    case c4 => unfold maxLen; omega
    case c5 => omega
    case c6 => simp
    intro v' w1 hown hgrow _
    obtain ⟨a', c', rfl⟩ := own_slice hown
    go_wp2
    go_ret
    exact ⟨a', c', by rw [iV_len]; rfl, by rw [iV_len]; exact hown, ((Below.refl _ w).alloc (Nat.le_refl _) _).grown hgrow (by simp) (fun k e => by cases e; exact Nat.le_refl _)⟩

set_option maxHeartbeats 1000000 in
set_option maxRecDepth 100000 in
theorem clone_b (a : Option Addr) (c : Nat) (xs : List Int) (w : World) (hv : SlV a xs.length c) (hs : SlAt w a (bV xs)) (hn : xs.length ≤ 4096) :
    Calls Try.prog 81 #[.slice a xs.length c] w (Cloned 5 (bV xs) w) := by
  have hnil := fun (w : World) (a : Option Addr) (n c n' c' : Nat) => Lib.run_eql_slice_nil (P := Try.prog) w 23 5 a n c n' c' Try.underlying23
  obtain ⟨_, _, hv3⟩ := hv; rename_i hv1 hv2; clear hv1 hv2
  rcases a with _ | ad
  · obtain ⟨h1, h2⟩ := hv3 rfl
    subst h2
    have : xs = [] := List.eq_nil_of_length_eq_zero h1
    subst this
    go_enter Try.func81, Try.ntmps81
    go_wp2
    go_ret
    exact ⟨_, _, rfl, World.ownsRow_nil _ _ _ _, Below.refl _ _⟩
  · obtain ⟨i0, hi, hz0, hz1, hz2⟩ := info_parts Try.info5
    have HV := Lib.hid hv3
    clear hv3
    have HS := Lib.hid (hs.below ((Below.refl _ w).alloc (Nat.le_refl _) (.cells #[] 5))).news
    clear hs
    go_enter Try.func81, Try.ntmps81
    go_wp2_with (at_builtin; refine wpList_append_own _ rfl _ _ 23 rfl w.heap.size 5 i0 (.int .u8 0) 1 1 Try.underlying23 hi hz0 hz1 hz2 rfl (by decide) _ _ _ rfl (World.ownsRow_made _ _ _ (by omega) (by decide) rfl) ad xs.length c (bV xs) rfl ?c1 ?c2 ?c3 ?c4 ?c5 ?c6 ?_)
    case c1 => simp [bV]
    case c2 => exact HS.out
    case c3 => exact bV_one xs
    case c4 => unfold maxLen; omega
    case c5 => omega
    case c6 => simp
    intro v' w1 hown hgrow _
    obtain ⟨a', c', rfl⟩ := own_slice hown
    go_wp2
    go_ret
    exact ⟨a', c', by rw [bV_len]; rfl, by rw [bV_len]; exact hown, ((Below.refl _ w).alloc (Nat.le_refl _) _).grown hgrow (by simp) (fun k e => by cases e; exact Nat.le_refl _)⟩

theorem bcell {W w1 : World} (hb : Below W.heap.size W w1) : (∀ b o, b < W.heap.size → w1.cell? ⟨b, o, none⟩ = W.cell? ⟨b, o, none⟩) ∧ (∀ b o, b < W.heap.size → w1.frozen? ⟨b, o, none⟩ = W.frozen? ⟨b, o, none⟩) :=
  ⟨fun b o h => below_cell hb b o h, fun b o h => below_frozen hb b o h⟩
theorem put2 {w : World} {b : Nat} {o0 o1 : Value} (x y : Value) (e1 : w.cell? ⟨b, 0, none⟩ = some o0) (e2 : w.cell? ⟨b, 1, none⟩ = some o1) :
    (w.setCell ⟨b, 0, none⟩ x).cell? ⟨b, 0, none⟩ = some x ∧ ((w.setCell ⟨b, 0, none⟩ x).setCell ⟨b, 1, none⟩ y).cell? ⟨b, 1, none⟩ = some y :=
  ⟨World.cell?_setCell_same' _ _ _ (by rw [e1]; rfl), World.cell?_setCell_same' _ _ _ (by rw [World.cell?_setCell_other _ _ _ _ (by simp)]; rw [e2]; rfl)⟩
/-- A space of one's own. -/
def OwnSp (base : Nat) (w : World) (v : Value) (perm bytes : List Int) : Prop :=
  ∃ (a : Option Addr) (c : Nat) (a2 : Option Addr) (c2 : Nat), v = .agg #[.slice a perm.length c, .slice a2 bytes.length c2] ∧
    w.ownsRow base 3 1 (.slice a perm.length c) perm.length (iV perm) ∧ w.ownsRow base 5 1 (.slice a2 bytes.length c2) bytes.length (bV bytes)
def ClonedSp (perm bytes : List Int) (w : World) (en : Ending) (w' : World) : Prop :=
  ∃ v : Value, en = .returned v ∧ OwnSp w.heap.size w' v perm bytes ∧ Below w.heap.size w w'
theorem ownsRow_base {w : World} {base base' e size n : Nat} {v : Value} {xs : List Value} (h : w.ownsRow base e size v n xs) (hb : base' ≤ base) : w.ownsRow base' e size v n xs := by
  obtain ⟨h1, (h2 | ⟨g, cap, cur, h3, h4, h5⟩)⟩ := h
  · exact ⟨h1, .inl h2⟩
  · exact ⟨h1, .inr ⟨g, cap, cur, h3, by omega, h5⟩⟩
theorem ownsRow_below {w w' : World} {base e size n : Nat} {v : Value} {xs : List Value} (h : w.ownsRow base e size v n xs) (hq : Below w.heap.size w w') : w'.ownsRow base e size v n xs := by
  obtain ⟨h1, (h2 | ⟨g, cap, cur, h3, h4, h5, h6⟩)⟩ := h
  · exact ⟨h1, .inl h2⟩
  · exact ⟨h1, .inr ⟨g, cap, cur, h3, h4, by rw [hq.block _ (Array.getElem?_eq_some_iff.1 h5).1]; exact h5, h6⟩⟩

theorem clone_end {w W w2 w3 : World} {b d b2 d2} {perm bytes : List Int} (hb : Below W.heap.size W w2) (hown : w2.ownsRow W.heap.size 3 1 (.slice b (iV perm).length d) (iV perm).length (iV perm))
    (hb2 : Below w2.heap.size w2 w3) (hown2 : w3.ownsRow w2.heap.size 5 1 (.slice b2 (bV bytes).length d2) (bV bytes).length (bV bytes)) (hz : W.heap.size = w.heap.size + 2) (h0 : Below w.heap.size w W) :
    ClonedSp perm bytes w (.returned (.agg #[.slice b (iV perm).length d, .slice b2 (bV bytes).length d2])) ((w3.setCell ⟨w.heap.size + 1, 0, none⟩ (.slice b (iV perm).length d)).setCell ⟨w.heap.size + 1, 1, none⟩ (.slice b2 (bV bytes).length d2)) := by
  have hz2 := hb.size
  refine ⟨_, rfl, ⟨b, d, b2, d2, by rw [iV_len, bV_len], ?_, ?_⟩, ?_⟩
  · rw [← iV_len]
    exact ownsRow_base (ownsRow_setCell_below (ownsRow_setCell_below (ownsRow_below hown hb2) (by show w.heap.size + 1 < _; omega) _) (by show w.heap.size + 1 < _; omega) _) (by omega)
  · rw [← bV_len]
    exact ownsRow_base (ownsRow_setCell_below (ownsRow_setCell_below hown2 (by show w.heap.size + 1 < _; omega) _) (by show w.heap.size + 1 < _; omega) _) (by omega)
  · exact ((Below.tail (Below.tail h0 hb) hb2).setCell (by show _ ≤ w.heap.size + 1; omega) _).setCell (by show _ ≤ w.heap.size + 1; omega) _

set_option maxHeartbeats 4000000 in
set_option maxRecDepth 100000 in
theorem clone_c (a : Option Addr) (c : Nat) (a2 : Option Addr) (c2 : Nat) (perm bytes : List Int) (w : World) (hv : SlV a perm.length c) (hv2 : SlV a2 bytes.length c2) (hs : SlAt w a (iV perm)) (hs2 : SlAt w a2 (bV bytes)) (hn : perm.length ≤ 4096) (hn2 : bytes.length ≤ 4096) :
    Calls Try.prog 69 #[.agg #[.slice a perm.length c, .slice a2 bytes.length c2]] w (ClonedSp perm bytes w) := by
  have HV := Lib.hid hv
  have HV2 := Lib.hid hv2
  have HS := Lib.hid hs
  have HS2 := Lib.hid hs2
  clear hv hv2 hs hs2
  go_enter Try.func69, Try.ntmps69
  go_wp2
  go_region_with (first
      | (go_at_call 80; refine (clone_i _ _ _ _ HV.out (HS.out.below (by repeat (first | exact Below.refl _ _ | apply b_alloc | apply Below.drew))) hn).mono ?_; rintro e w2 ⟨b, d, rfl, hown, hb⟩; obtain ⟨hc2, hf2⟩ := bcell hb; have hz2 : w.heap.size + 1 < w2.heap.size := by have := hb.size; simp at this; omega)
      | (go_at_call 81; refine (clone_b _ _ _ _ HV2.out (HS2.out.below (Below.tail (by repeat (first | exact Below.refl _ _ | apply b_alloc | apply Below.drew)) hb)) hn2).mono ?_; rintro e w3 ⟨b2, d2, rfl, hown2, hb2⟩; obtain ⟨hc3, hf3⟩ := bcell hb2; have hz3 : w.heap.size + 1 < w3.heap.size := by have := hb2.size; omega))
  all_goals
    have e1 : w3.cell? ⟨w.heap.size + 1, 0, none⟩ = some (.slice none 0 0) := by rw [hc3 _ _ hz2, hc2 _ _ (by simp)]; simp [go_sem]
    have e2 : w3.cell? ⟨w.heap.size + 1, 1, none⟩ = some (.slice none 0 0) := by rw [hc3 _ _ hz2, hc2 _ _ (by simp)]; simp [go_sem]
    clear hc3 hc2 hf3 hf2
    obtain ⟨g1, g2⟩ := put2 (.slice b (iV perm).length d) (.slice b2 (bV bytes).length d2) e1 e2
    go_wp2
    refine bodyPost_ret (v := .agg #[.slice b (iV perm).length d, .slice b2 (bV bytes).length d2]) (by simp [results, Try.results69, go_sem, g1, g2]) rfl ?_
  all_goals exact clone_end hb hown hb2 hown2 (by simp) (by repeat (first | exact Below.refl _ _ | apply b_alloc | apply Below.drew))
end Go.Proofs.Ytdbcbmdekdfdoaa
