/- WHAT IS PROVED: the reference's Parse walked: its seven shapes, a long string, an invalid type. CONDITIONS: a valid type; contracts of the functions that it calls. -/
import Derived.Test.YtfgmfkiknogdeaaDoorFo5
namespace Go.Proofs.YtfgmfkiknogdeaaDoor
open Go Go.RowKit Go.QrBits
attribute [local go_sem] reg_cell reg_frozen reg_setCell reg_lt reg_lt_add reg_drew reg_of_drew

set_option maxHeartbeats 4000000 in
set_option maxRecDepth 100000 in
theorem rp_h_none (s : Int) (g : Bool) (str : ByteArray) (w : World) (h : vB s = true) (u : Int) (hs : str.size ≤ 20) (h2 : 2 < str.size) (e0 : ((str[0]'(by omega)).toNat : Int) = 48) (e1 : ((str[1]'(by omega)).toNat : Int) = 120)
    (hnum : ∀ w, Calls Tryd.prog 69 #[.string (str.extract 2 str.size), .int .u64 16] w fun e w' => e = .returned (.tuple #[.int .u64 u, .bool false]) ∧ Below w.heap.size w w') :
    Calls Tryd.prog 39 #[.agg #[.int .i64 s, .bool g], .string str] w fun e w' => e = .returned (.tuple #[.int .i64 0, .int .i64 13]) ∧ Below w.heap.size w w' := by
  have hmx : str.size ≤ 9223372036854775807 := by omega
  have hh := And.intro hs h
  clear hh
  have hh := And.intro h2 h
  clear hh
  have hh := And.intro e0 h
  clear hh
  have hh := And.intro e1 h
  clear hh
  have HNUM := Lib.hid hnum
  clear hnum
  go_enter Tryd.func39, Tryd.ntmps39
  go_wp2_with (first
    | (go_at_call 25; refine (rCheck_c _ _ _ h).mono ?_; rintro e w' ⟨rfl, hq⟩; (first | obtain ⟨p, rfl⟩ := regrown2 hq | obtain ⟨p, rfl⟩ := regrown hq); clear hq)
    | (go_at_call 69; refine (HNUM.out _).mono ?_; rintro e w' ⟨rfl, hq⟩; (first | obtain ⟨p, rfl⟩ := regrown2 hq | obtain ⟨p, rfl⟩ := regrown hq); clear hq))
  go_returns
  exact ⟨rfl, by repeat (first | exact Below.refl _ _ | apply b_alloc | apply b_reg)⟩
set_option maxHeartbeats 4000000 in
set_option maxRecDepth 100000 in
theorem rp_h_wr (s : Int) (g : Bool) (str : ByteArray) (w : World) (h : vB s = true) (u : Int) (x : Int) (hs : str.size ≤ 18) (h2 : 2 < str.size) (e0 : ((str[0]'(by omega)).toNat : Int) = 48) (e1 : ((str[1]'(by omega)).toNat : Int) = 120) (hx : ¬ x = (wrap64 u))
    (hnum : ∀ w, Calls Tryd.prog 69 #[.string (str.extract 2 str.size), .int .u64 16] w fun e w' => e = .returned (.tuple #[.int .u64 u, .bool true]) ∧ Below w.heap.size w w')
    (hwr : ∀ w, Calls Tryd.prog 47 #[.agg #[.int .i64 s, .bool g], .int .i64 (wrap64 u)] w fun e w' => e = .returned (.int .i64 x) ∧ Below w.heap.size w w') :
    Calls Tryd.prog 39 #[.agg #[.int .i64 s, .bool g], .string str] w fun e w' => e = .returned (.tuple #[.int .i64 0, .int .i64 13]) ∧ Below w.heap.size w w' := by
  have hmx : str.size ≤ 9223372036854775807 := by omega
  have hh := And.intro hs h
  clear hh
  have hh := And.intro h2 h
  clear hh
  have hh := And.intro e0 h
  clear hh
  have hh := And.intro e1 h
  clear hh
  have hh := And.intro hx h
  clear hh
  have HNUM := Lib.hid hnum
  have HWR := Lib.hid hwr
  clear hnum hwr
  go_enter Tryd.func39, Tryd.ntmps39
  go_wp2_with (first
    | (go_at_call 25; refine (rCheck_c _ _ _ h).mono ?_; rintro e w' ⟨rfl, hq⟩; (first | obtain ⟨p, rfl⟩ := regrown2 hq | obtain ⟨p, rfl⟩ := regrown hq); clear hq)
    | (go_at_call 69; refine (HNUM.out _).mono ?_; rintro e w' ⟨rfl, hq⟩; (first | obtain ⟨p, rfl⟩ := regrown2 hq | obtain ⟨p, rfl⟩ := regrown hq); clear hq)
    | (go_at_call 47; refine (HWR.out _).mono ?_; rintro e w' ⟨rfl, hq⟩; (first | obtain ⟨p, rfl⟩ := regrown2 hq | obtain ⟨p, rfl⟩ := regrown hq); clear hq))
  go_returns
  exact ⟨rfl, by repeat (first | exact Below.refl _ _ | apply b_alloc | apply b_reg)⟩
set_option maxHeartbeats 4000000 in
set_option maxRecDepth 100000 in
theorem rp_h_tx (s : Int) (g : Bool) (str : ByteArray) (w : World) (h : vB s = true) (u : Int) (T : ByteArray) (D : ByteArray) (hs : str.size ≤ 18) (h2 : 2 < str.size) (e0 : ((str[0]'(by omega)).toNat : Int) = 48) (e1 : ((str[1]'(by omega)).toNat : Int) = 120) (ht : (T.toList == D.toList) = false)
    (hnum : ∀ w, Calls Tryd.prog 69 #[.string (str.extract 2 str.size), .int .u64 16] w fun e w' => e = .returned (.tuple #[.int .u64 u, .bool true]) ∧ Below w.heap.size w w')
    (hwr : ∀ w, Calls Tryd.prog 47 #[.agg #[.int .i64 s, .bool g], .int .i64 (wrap64 u)] w fun e w' => e = .returned (.int .i64 (wrap64 u)) ∧ Below w.heap.size w w')
    (htx : ∀ w, Calls Tryd.prog 37 #[.agg #[.int .i64 s, .bool g], .int .i64 (wrap64 u)] w fun e w' => e = .returned (.tuple #[.string T, .int .i64 0]) ∧ Below w.heap.size w w')
    (hdg : ∀ w, Calls Tryd.prog 66 #[.int .u64 u] w fun e w' => e = .returned (.string D) ∧ Below w.heap.size w w') :
    Calls Tryd.prog 39 #[.agg #[.int .i64 s, .bool g], .string str] w fun e w' => e = .returned (.tuple #[.int .i64 0, .int .i64 13]) ∧ Below w.heap.size w w' := by
  have hmx : str.size ≤ 9223372036854775807 := by omega
  have hh := And.intro hs h
  clear hh
  have hh := And.intro h2 h
  clear hh
  have hh := And.intro e0 h
  clear hh
  have hh := And.intro e1 h
  clear hh
  have hh := And.intro ht h
  clear hh
  have HNUM := Lib.hid hnum
  have HWR := Lib.hid hwr
  have HTX := Lib.hid htx
  have HDG := Lib.hid hdg
  clear hnum hwr htx hdg
  go_enter Tryd.func39, Tryd.ntmps39
  go_wp2_with (first
    | (go_at_call 25; refine (rCheck_c _ _ _ h).mono ?_; rintro e w' ⟨rfl, hq⟩; (first | obtain ⟨p, rfl⟩ := regrown2 hq | obtain ⟨p, rfl⟩ := regrown hq); clear hq)
    | (go_at_call 69; refine (HNUM.out _).mono ?_; rintro e w' ⟨rfl, hq⟩; (first | obtain ⟨p, rfl⟩ := regrown2 hq | obtain ⟨p, rfl⟩ := regrown hq); clear hq)
    | (go_at_call 47; refine (HWR.out _).mono ?_; rintro e w' ⟨rfl, hq⟩; (first | obtain ⟨p, rfl⟩ := regrown2 hq | obtain ⟨p, rfl⟩ := regrown hq); clear hq)
    | (go_at_call 37; refine (HTX.out _).mono ?_; rintro e w' ⟨rfl, hq⟩; (first | obtain ⟨p, rfl⟩ := regrown2 hq | obtain ⟨p, rfl⟩ := regrown hq); clear hq)
    | (go_at_call 66; refine (HDG.out _).mono ?_; rintro e w' ⟨rfl, hq⟩; (first | obtain ⟨p, rfl⟩ := regrown2 hq | obtain ⟨p, rfl⟩ := regrown hq); clear hq))
  go_returns
  exact ⟨rfl, by repeat (first | exact Below.refl _ _ | apply b_alloc | apply b_reg)⟩
set_option maxHeartbeats 4000000 in
set_option maxRecDepth 100000 in
theorem rp_h_ok (s : Int) (g : Bool) (str : ByteArray) (w : World) (h : vB s = true) (u : Int) (T : ByteArray) (hs : str.size ≤ 18) (h2 : 2 < str.size) (e0 : ((str[0]'(by omega)).toNat : Int) = 48) (e1 : ((str[1]'(by omega)).toNat : Int) = 120)
    (hnum : ∀ w, Calls Tryd.prog 69 #[.string (str.extract 2 str.size), .int .u64 16] w fun e w' => e = .returned (.tuple #[.int .u64 u, .bool true]) ∧ Below w.heap.size w w')
    (hwr : ∀ w, Calls Tryd.prog 47 #[.agg #[.int .i64 s, .bool g], .int .i64 (wrap64 u)] w fun e w' => e = .returned (.int .i64 (wrap64 u)) ∧ Below w.heap.size w w')
    (htx : ∀ w, Calls Tryd.prog 37 #[.agg #[.int .i64 s, .bool g], .int .i64 (wrap64 u)] w fun e w' => e = .returned (.tuple #[.string T, .int .i64 0]) ∧ Below w.heap.size w w')
    (hdg : ∀ w, Calls Tryd.prog 66 #[.int .u64 u] w fun e w' => e = .returned (.string T) ∧ Below w.heap.size w w') :
    Calls Tryd.prog 39 #[.agg #[.int .i64 s, .bool g], .string str] w fun e w' => e = .returned (.tuple #[.int .i64 (wrap64 u), .int .i64 0]) ∧ Below w.heap.size w w' := by
  have hmx : str.size ≤ 9223372036854775807 := by omega
  have hh := And.intro hs h
  clear hh
  have hh := And.intro h2 h
  clear hh
  have hh := And.intro e0 h
  clear hh
  have hh := And.intro e1 h
  clear hh
  have HNUM := Lib.hid hnum
  have HWR := Lib.hid hwr
  have HTX := Lib.hid htx
  have HDG := Lib.hid hdg
  clear hnum hwr htx hdg
  go_enter Tryd.func39, Tryd.ntmps39
  go_wp2_with (first
    | (go_at_call 25; refine (rCheck_c _ _ _ h).mono ?_; rintro e w' ⟨rfl, hq⟩; (first | obtain ⟨p, rfl⟩ := regrown2 hq | obtain ⟨p, rfl⟩ := regrown hq); clear hq)
    | (go_at_call 69; refine (HNUM.out _).mono ?_; rintro e w' ⟨rfl, hq⟩; (first | obtain ⟨p, rfl⟩ := regrown2 hq | obtain ⟨p, rfl⟩ := regrown hq); clear hq)
    | (go_at_call 47; refine (HWR.out _).mono ?_; rintro e w' ⟨rfl, hq⟩; (first | obtain ⟨p, rfl⟩ := regrown2 hq | obtain ⟨p, rfl⟩ := regrown hq); clear hq)
    | (go_at_call 37; refine (HTX.out _).mono ?_; rintro e w' ⟨rfl, hq⟩; (first | obtain ⟨p, rfl⟩ := regrown2 hq | obtain ⟨p, rfl⟩ := regrown hq); clear hq)
    | (go_at_call 66; refine (HDG.out _).mono ?_; rintro e w' ⟨rfl, hq⟩; (first | obtain ⟨p, rfl⟩ := regrown2 hq | obtain ⟨p, rfl⟩ := regrown hq); clear hq))
  go_returns
  exact ⟨rfl, by repeat (first | exact Below.refl _ _ | apply b_alloc | apply b_reg)⟩
set_option maxHeartbeats 4000000 in
set_option maxRecDepth 100000 in
theorem rp_h_big (s : Int) (g : Bool) (str : ByteArray) (w : World) (h : vB s = true) (u : Int) (hs : ¬ str.size ≤ 18) (hs2 : str.size ≤ 20) (h2 : 2 < str.size) (e0 : ((str[0]'(by omega)).toNat : Int) = 48) (e1 : ((str[1]'(by omega)).toNat : Int) = 120)
    (hnum : ∀ w, Calls Tryd.prog 69 #[.string (str.extract 2 str.size), .int .u64 16] w fun e w' => e = .returned (.tuple #[.int .u64 u, .bool true]) ∧ Below w.heap.size w w') :
    Calls Tryd.prog 39 #[.agg #[.int .i64 s, .bool g], .string str] w fun e w' => e = .returned (.tuple #[.int .i64 0, .int .i64 13]) ∧ Below w.heap.size w w' := by
  have hmx : str.size ≤ 9223372036854775807 := by omega
  have hh := And.intro hs h
  clear hh
  have hh := And.intro hs2 h
  clear hh
  have hh := And.intro h2 h
  clear hh
  have hh := And.intro e0 h
  clear hh
  have hh := And.intro e1 h
  clear hh
  have HNUM := Lib.hid hnum
  clear hnum
  go_enter Tryd.func39, Tryd.ntmps39
  go_wp2_with (first
    | (go_at_call 25; refine (rCheck_c _ _ _ h).mono ?_; rintro e w' ⟨rfl, hq⟩; (first | obtain ⟨p, rfl⟩ := regrown2 hq | obtain ⟨p, rfl⟩ := regrown hq); clear hq)
    | (go_at_call 69; refine (HNUM.out _).mono ?_; rintro e w' ⟨rfl, hq⟩; (first | obtain ⟨p, rfl⟩ := regrown2 hq | obtain ⟨p, rfl⟩ := regrown hq); clear hq))
  go_returns
  exact ⟨rfl, by repeat (first | exact Below.refl _ _ | apply b_alloc | apply b_reg)⟩
set_option maxHeartbeats 4000000 in
set_option maxRecDepth 100000 in
theorem rp_s0_none (s : Int) (g : Bool) (str : ByteArray) (w : World) (h : vB s = true) (u : Int) (hs : str.size ≤ 20) (h2 : ¬ 0 < str.size)
    (hnum : ∀ w, Calls Tryd.prog 69 #[.string str, .int .u64 10] w fun e w' => e = .returned (.tuple #[.int .u64 u, .bool false]) ∧ Below w.heap.size w w') :
    Calls Tryd.prog 39 #[.agg #[.int .i64 s, .bool g], .string str] w fun e w' => e = .returned (.tuple #[.int .i64 0, .int .i64 13]) ∧ Below w.heap.size w w' := by
  have hmx : str.size ≤ 9223372036854775807 := by omega
  have hh := And.intro hs h
  clear hh
  have hh := And.intro h2 h
  clear hh
  have HNUM := Lib.hid hnum
  clear hnum
  go_enter Tryd.func39, Tryd.ntmps39
  go_wp2_with (first
    | (go_at_call 25; refine (rCheck_c _ _ _ h).mono ?_; rintro e w' ⟨rfl, hq⟩; (first | obtain ⟨p, rfl⟩ := regrown2 hq | obtain ⟨p, rfl⟩ := regrown hq); clear hq)
    | (go_at_call 69; refine (HNUM.out _).mono ?_; rintro e w' ⟨rfl, hq⟩; (first | obtain ⟨p, rfl⟩ := regrown2 hq | obtain ⟨p, rfl⟩ := regrown hq); clear hq))
  go_returns
  exact ⟨rfl, by repeat (first | exact Below.refl _ _ | apply b_alloc | apply b_reg)⟩
set_option maxHeartbeats 4000000 in
set_option maxRecDepth 100000 in
theorem rp_s0_wr (s : Int) (g : Bool) (str : ByteArray) (w : World) (h : vB s = true) (u : Int) (x : Int) (hs : str.size ≤ 20) (h2 : ¬ 0 < str.size) (hx : ¬ x = (wrap64 u))
    (hnum : ∀ w, Calls Tryd.prog 69 #[.string str, .int .u64 10] w fun e w' => e = .returned (.tuple #[.int .u64 u, .bool true]) ∧ Below w.heap.size w w')
    (hwr : ∀ w, Calls Tryd.prog 47 #[.agg #[.int .i64 s, .bool g], .int .i64 (wrap64 u)] w fun e w' => e = .returned (.int .i64 x) ∧ Below w.heap.size w w') :
    Calls Tryd.prog 39 #[.agg #[.int .i64 s, .bool g], .string str] w fun e w' => e = .returned (.tuple #[.int .i64 0, .int .i64 13]) ∧ Below w.heap.size w w' := by
  have hmx : str.size ≤ 9223372036854775807 := by omega
  have hh := And.intro hs h
  clear hh
  have hh := And.intro h2 h
  clear hh
  have hh := And.intro hx h
  clear hh
  have HNUM := Lib.hid hnum
  have HWR := Lib.hid hwr
  clear hnum hwr
  go_enter Tryd.func39, Tryd.ntmps39
  go_wp2_with (first
    | (go_at_call 25; refine (rCheck_c _ _ _ h).mono ?_; rintro e w' ⟨rfl, hq⟩; (first | obtain ⟨p, rfl⟩ := regrown2 hq | obtain ⟨p, rfl⟩ := regrown hq); clear hq)
    | (go_at_call 69; refine (HNUM.out _).mono ?_; rintro e w' ⟨rfl, hq⟩; (first | obtain ⟨p, rfl⟩ := regrown2 hq | obtain ⟨p, rfl⟩ := regrown hq); clear hq)
    | (go_at_call 47; refine (HWR.out _).mono ?_; rintro e w' ⟨rfl, hq⟩; (first | obtain ⟨p, rfl⟩ := regrown2 hq | obtain ⟨p, rfl⟩ := regrown hq); clear hq))
  go_returns
  exact ⟨rfl, by repeat (first | exact Below.refl _ _ | apply b_alloc | apply b_reg)⟩
set_option maxHeartbeats 4000000 in
set_option maxRecDepth 100000 in
theorem rp_s0_tx (s : Int) (g : Bool) (str : ByteArray) (w : World) (h : vB s = true) (u : Int) (T : ByteArray) (hs : str.size ≤ 20) (h2 : ¬ 0 < str.size) (ht : (T.toList == str.toList) = false)
    (hnum : ∀ w, Calls Tryd.prog 69 #[.string str, .int .u64 10] w fun e w' => e = .returned (.tuple #[.int .u64 u, .bool true]) ∧ Below w.heap.size w w')
    (hwr : ∀ w, Calls Tryd.prog 47 #[.agg #[.int .i64 s, .bool g], .int .i64 (wrap64 u)] w fun e w' => e = .returned (.int .i64 (wrap64 u)) ∧ Below w.heap.size w w')
    (htx : ∀ w, Calls Tryd.prog 37 #[.agg #[.int .i64 s, .bool g], .int .i64 (wrap64 u)] w fun e w' => e = .returned (.tuple #[.string T, .int .i64 0]) ∧ Below w.heap.size w w') :
    Calls Tryd.prog 39 #[.agg #[.int .i64 s, .bool g], .string str] w fun e w' => e = .returned (.tuple #[.int .i64 0, .int .i64 13]) ∧ Below w.heap.size w w' := by
  have hmx : str.size ≤ 9223372036854775807 := by omega
  have hh := And.intro hs h
  clear hh
  have hh := And.intro h2 h
  clear hh
  have hh := And.intro ht h
  clear hh
  have HNUM := Lib.hid hnum
  have HWR := Lib.hid hwr
  have HTX := Lib.hid htx
  clear hnum hwr htx
  go_enter Tryd.func39, Tryd.ntmps39
  go_wp2_with (first
    | (go_at_call 25; refine (rCheck_c _ _ _ h).mono ?_; rintro e w' ⟨rfl, hq⟩; (first | obtain ⟨p, rfl⟩ := regrown2 hq | obtain ⟨p, rfl⟩ := regrown hq); clear hq)
    | (go_at_call 69; refine (HNUM.out _).mono ?_; rintro e w' ⟨rfl, hq⟩; (first | obtain ⟨p, rfl⟩ := regrown2 hq | obtain ⟨p, rfl⟩ := regrown hq); clear hq)
    | (go_at_call 47; refine (HWR.out _).mono ?_; rintro e w' ⟨rfl, hq⟩; (first | obtain ⟨p, rfl⟩ := regrown2 hq | obtain ⟨p, rfl⟩ := regrown hq); clear hq)
    | (go_at_call 37; refine (HTX.out _).mono ?_; rintro e w' ⟨rfl, hq⟩; (first | obtain ⟨p, rfl⟩ := regrown2 hq | obtain ⟨p, rfl⟩ := regrown hq); clear hq))
  go_returns
  exact ⟨rfl, by repeat (first | exact Below.refl _ _ | apply b_alloc | apply b_reg)⟩
set_option maxHeartbeats 4000000 in
set_option maxRecDepth 100000 in
theorem rp_s0_ok (s : Int) (g : Bool) (str : ByteArray) (w : World) (h : vB s = true) (u : Int) (hs : str.size ≤ 20) (h2 : ¬ 0 < str.size)
    (hnum : ∀ w, Calls Tryd.prog 69 #[.string str, .int .u64 10] w fun e w' => e = .returned (.tuple #[.int .u64 u, .bool true]) ∧ Below w.heap.size w w')
    (hwr : ∀ w, Calls Tryd.prog 47 #[.agg #[.int .i64 s, .bool g], .int .i64 (wrap64 u)] w fun e w' => e = .returned (.int .i64 (wrap64 u)) ∧ Below w.heap.size w w')
    (htx : ∀ w, Calls Tryd.prog 37 #[.agg #[.int .i64 s, .bool g], .int .i64 (wrap64 u)] w fun e w' => e = .returned (.tuple #[.string str, .int .i64 0]) ∧ Below w.heap.size w w') :
    Calls Tryd.prog 39 #[.agg #[.int .i64 s, .bool g], .string str] w fun e w' => e = .returned (.tuple #[.int .i64 (wrap64 u), .int .i64 0]) ∧ Below w.heap.size w w' := by
  have hmx : str.size ≤ 9223372036854775807 := by omega
  have hh := And.intro hs h
  clear hh
  have hh := And.intro h2 h
  clear hh
  have HNUM := Lib.hid hnum
  have HWR := Lib.hid hwr
  have HTX := Lib.hid htx
  clear hnum hwr htx
  go_enter Tryd.func39, Tryd.ntmps39
  go_wp2_with (first
    | (go_at_call 25; refine (rCheck_c _ _ _ h).mono ?_; rintro e w' ⟨rfl, hq⟩; (first | obtain ⟨p, rfl⟩ := regrown2 hq | obtain ⟨p, rfl⟩ := regrown hq); clear hq)
    | (go_at_call 69; refine (HNUM.out _).mono ?_; rintro e w' ⟨rfl, hq⟩; (first | obtain ⟨p, rfl⟩ := regrown2 hq | obtain ⟨p, rfl⟩ := regrown hq); clear hq)
    | (go_at_call 47; refine (HWR.out _).mono ?_; rintro e w' ⟨rfl, hq⟩; (first | obtain ⟨p, rfl⟩ := regrown2 hq | obtain ⟨p, rfl⟩ := regrown hq); clear hq)
    | (go_at_call 37; refine (HTX.out _).mono ?_; rintro e w' ⟨rfl, hq⟩; (first | obtain ⟨p, rfl⟩ := regrown2 hq | obtain ⟨p, rfl⟩ := regrown hq); clear hq))
  go_returns
  exact ⟨rfl, by repeat (first | exact Below.refl _ _ | apply b_alloc | apply b_reg)⟩
set_option maxHeartbeats 4000000 in
set_option maxRecDepth 100000 in
theorem rp_s1_none (s : Int) (g : Bool) (str : ByteArray) (w : World) (h : vB s = true) (u : Int) (hs : str.size ≤ 20) (h2 : 0 < str.size) (h3 : str.size ≤ 2) (e0 : ((str[0]'(by omega)).toNat : Int) = 45)
    (hnum : ∀ w, Calls Tryd.prog 69 #[.string (str.extract 1 str.size), .int .u64 10] w fun e w' => e = .returned (.tuple #[.int .u64 u, .bool false]) ∧ Below w.heap.size w w') :
    Calls Tryd.prog 39 #[.agg #[.int .i64 s, .bool g], .string str] w fun e w' => e = .returned (.tuple #[.int .i64 0, .int .i64 13]) ∧ Below w.heap.size w w' := by
  have hmx : str.size ≤ 9223372036854775807 := by omega
  have hh := And.intro hs h
  clear hh
  have hh := And.intro h2 h
  clear hh
  have hh := And.intro h3 h
  clear hh
  have hh := And.intro e0 h
  clear hh
  have HNUM := Lib.hid hnum
  clear hnum
  go_enter Tryd.func39, Tryd.ntmps39
  go_wp2_with (first
    | (go_at_call 25; refine (rCheck_c _ _ _ h).mono ?_; rintro e w' ⟨rfl, hq⟩; (first | obtain ⟨p, rfl⟩ := regrown2 hq | obtain ⟨p, rfl⟩ := regrown hq); clear hq)
    | (go_at_call 69; refine (HNUM.out _).mono ?_; rintro e w' ⟨rfl, hq⟩; (first | obtain ⟨p, rfl⟩ := regrown2 hq | obtain ⟨p, rfl⟩ := regrown hq); clear hq))
  go_returns
  exact ⟨rfl, by repeat (first | exact Below.refl _ _ | apply b_alloc | apply b_reg)⟩
set_option maxHeartbeats 4000000 in
set_option maxRecDepth 100000 in
theorem rp_s1_wr (s : Int) (g : Bool) (str : ByteArray) (w : World) (h : vB s = true) (u : Int) (x : Int) (hs : str.size ≤ 20) (h2 : 0 < str.size) (h3 : str.size ≤ 2) (e0 : ((str[0]'(by omega)).toNat : Int) = 45) (hx : ¬ x = (wrap64 (-(wrap64 u))))
    (hnum : ∀ w, Calls Tryd.prog 69 #[.string (str.extract 1 str.size), .int .u64 10] w fun e w' => e = .returned (.tuple #[.int .u64 u, .bool true]) ∧ Below w.heap.size w w')
    (hwr : ∀ w, Calls Tryd.prog 47 #[.agg #[.int .i64 s, .bool g], .int .i64 (wrap64 (-(wrap64 u)))] w fun e w' => e = .returned (.int .i64 x) ∧ Below w.heap.size w w') :
    Calls Tryd.prog 39 #[.agg #[.int .i64 s, .bool g], .string str] w fun e w' => e = .returned (.tuple #[.int .i64 0, .int .i64 13]) ∧ Below w.heap.size w w' := by
  have hmx : str.size ≤ 9223372036854775807 := by omega
  have hh := And.intro hs h
  clear hh
  have hh := And.intro h2 h
  clear hh
  have hh := And.intro h3 h
  clear hh
  have hh := And.intro e0 h
  clear hh
  have hh := And.intro hx h
  clear hh
  have HNUM := Lib.hid hnum
  have HWR := Lib.hid hwr
  clear hnum hwr
  go_enter Tryd.func39, Tryd.ntmps39
  go_wp2_with (first
    | (go_at_call 25; refine (rCheck_c _ _ _ h).mono ?_; rintro e w' ⟨rfl, hq⟩; (first | obtain ⟨p, rfl⟩ := regrown2 hq | obtain ⟨p, rfl⟩ := regrown hq); clear hq)
    | (go_at_call 69; refine (HNUM.out _).mono ?_; rintro e w' ⟨rfl, hq⟩; (first | obtain ⟨p, rfl⟩ := regrown2 hq | obtain ⟨p, rfl⟩ := regrown hq); clear hq)
    | (go_at_call 47; refine (HWR.out _).mono ?_; rintro e w' ⟨rfl, hq⟩; (first | obtain ⟨p, rfl⟩ := regrown2 hq | obtain ⟨p, rfl⟩ := regrown hq); clear hq))
  go_returns
  exact ⟨rfl, by repeat (first | exact Below.refl _ _ | apply b_alloc | apply b_reg)⟩
set_option maxHeartbeats 4000000 in
set_option maxRecDepth 100000 in
theorem rp_s1_tx (s : Int) (g : Bool) (str : ByteArray) (w : World) (h : vB s = true) (u : Int) (T : ByteArray) (hs : str.size ≤ 20) (h2 : 0 < str.size) (h3 : str.size ≤ 2) (e0 : ((str[0]'(by omega)).toNat : Int) = 45) (ht : (T.toList == str.toList) = false)
    (hnum : ∀ w, Calls Tryd.prog 69 #[.string (str.extract 1 str.size), .int .u64 10] w fun e w' => e = .returned (.tuple #[.int .u64 u, .bool true]) ∧ Below w.heap.size w w')
    (hwr : ∀ w, Calls Tryd.prog 47 #[.agg #[.int .i64 s, .bool g], .int .i64 (wrap64 (-(wrap64 u)))] w fun e w' => e = .returned (.int .i64 (wrap64 (-(wrap64 u)))) ∧ Below w.heap.size w w')
    (htx : ∀ w, Calls Tryd.prog 37 #[.agg #[.int .i64 s, .bool g], .int .i64 (wrap64 (-(wrap64 u)))] w fun e w' => e = .returned (.tuple #[.string T, .int .i64 0]) ∧ Below w.heap.size w w') :
    Calls Tryd.prog 39 #[.agg #[.int .i64 s, .bool g], .string str] w fun e w' => e = .returned (.tuple #[.int .i64 0, .int .i64 13]) ∧ Below w.heap.size w w' := by
  have hmx : str.size ≤ 9223372036854775807 := by omega
  have hh := And.intro hs h
  clear hh
  have hh := And.intro h2 h
  clear hh
  have hh := And.intro h3 h
  clear hh
  have hh := And.intro e0 h
  clear hh
  have hh := And.intro ht h
  clear hh
  have HNUM := Lib.hid hnum
  have HWR := Lib.hid hwr
  have HTX := Lib.hid htx
  clear hnum hwr htx
  go_enter Tryd.func39, Tryd.ntmps39
  go_wp2_with (first
    | (go_at_call 25; refine (rCheck_c _ _ _ h).mono ?_; rintro e w' ⟨rfl, hq⟩; (first | obtain ⟨p, rfl⟩ := regrown2 hq | obtain ⟨p, rfl⟩ := regrown hq); clear hq)
    | (go_at_call 69; refine (HNUM.out _).mono ?_; rintro e w' ⟨rfl, hq⟩; (first | obtain ⟨p, rfl⟩ := regrown2 hq | obtain ⟨p, rfl⟩ := regrown hq); clear hq)
    | (go_at_call 47; refine (HWR.out _).mono ?_; rintro e w' ⟨rfl, hq⟩; (first | obtain ⟨p, rfl⟩ := regrown2 hq | obtain ⟨p, rfl⟩ := regrown hq); clear hq)
    | (go_at_call 37; refine (HTX.out _).mono ?_; rintro e w' ⟨rfl, hq⟩; (first | obtain ⟨p, rfl⟩ := regrown2 hq | obtain ⟨p, rfl⟩ := regrown hq); clear hq))
  go_returns
  exact ⟨rfl, by repeat (first | exact Below.refl _ _ | apply b_alloc | apply b_reg)⟩
set_option maxHeartbeats 4000000 in
set_option maxRecDepth 100000 in
theorem rp_s1_ok (s : Int) (g : Bool) (str : ByteArray) (w : World) (h : vB s = true) (u : Int) (hs : str.size ≤ 20) (h2 : 0 < str.size) (h3 : str.size ≤ 2) (e0 : ((str[0]'(by omega)).toNat : Int) = 45)
    (hnum : ∀ w, Calls Tryd.prog 69 #[.string (str.extract 1 str.size), .int .u64 10] w fun e w' => e = .returned (.tuple #[.int .u64 u, .bool true]) ∧ Below w.heap.size w w')
    (hwr : ∀ w, Calls Tryd.prog 47 #[.agg #[.int .i64 s, .bool g], .int .i64 (wrap64 (-(wrap64 u)))] w fun e w' => e = .returned (.int .i64 (wrap64 (-(wrap64 u)))) ∧ Below w.heap.size w w')
    (htx : ∀ w, Calls Tryd.prog 37 #[.agg #[.int .i64 s, .bool g], .int .i64 (wrap64 (-(wrap64 u)))] w fun e w' => e = .returned (.tuple #[.string str, .int .i64 0]) ∧ Below w.heap.size w w') :
    Calls Tryd.prog 39 #[.agg #[.int .i64 s, .bool g], .string str] w fun e w' => e = .returned (.tuple #[.int .i64 (wrap64 (-(wrap64 u))), .int .i64 0]) ∧ Below w.heap.size w w' := by
  have hmx : str.size ≤ 9223372036854775807 := by omega
  have hh := And.intro hs h
  clear hh
  have hh := And.intro h2 h
  clear hh
  have hh := And.intro h3 h
  clear hh
  have hh := And.intro e0 h
  clear hh
  have HNUM := Lib.hid hnum
  have HWR := Lib.hid hwr
  have HTX := Lib.hid htx
  clear hnum hwr htx
  go_enter Tryd.func39, Tryd.ntmps39
  go_wp2_with (first
    | (go_at_call 25; refine (rCheck_c _ _ _ h).mono ?_; rintro e w' ⟨rfl, hq⟩; (first | obtain ⟨p, rfl⟩ := regrown2 hq | obtain ⟨p, rfl⟩ := regrown hq); clear hq)
    | (go_at_call 69; refine (HNUM.out _).mono ?_; rintro e w' ⟨rfl, hq⟩; (first | obtain ⟨p, rfl⟩ := regrown2 hq | obtain ⟨p, rfl⟩ := regrown hq); clear hq)
    | (go_at_call 47; refine (HWR.out _).mono ?_; rintro e w' ⟨rfl, hq⟩; (first | obtain ⟨p, rfl⟩ := regrown2 hq | obtain ⟨p, rfl⟩ := regrown hq); clear hq)
    | (go_at_call 37; refine (HTX.out _).mono ?_; rintro e w' ⟨rfl, hq⟩; (first | obtain ⟨p, rfl⟩ := regrown2 hq | obtain ⟨p, rfl⟩ := regrown hq); clear hq))
  go_returns
  exact ⟨rfl, by repeat (first | exact Below.refl _ _ | apply b_alloc | apply b_reg)⟩
set_option maxHeartbeats 4000000 in
set_option maxRecDepth 100000 in
theorem rp_s2_none (s : Int) (g : Bool) (str : ByteArray) (w : World) (h : vB s = true) (u : Int) (hs : str.size ≤ 20) (h2 : 0 < str.size) (h3 : str.size ≤ 2) (e0 : ¬ ((str[0]'(by omega)).toNat : Int) = 45)
    (hnum : ∀ w, Calls Tryd.prog 69 #[.string str, .int .u64 10] w fun e w' => e = .returned (.tuple #[.int .u64 u, .bool false]) ∧ Below w.heap.size w w') :
    Calls Tryd.prog 39 #[.agg #[.int .i64 s, .bool g], .string str] w fun e w' => e = .returned (.tuple #[.int .i64 0, .int .i64 13]) ∧ Below w.heap.size w w' := by
  have hmx : str.size ≤ 9223372036854775807 := by omega
  have hh := And.intro hs h
  clear hh
  have hh := And.intro h2 h
  clear hh
  have hh := And.intro h3 h
  clear hh
  have hh := And.intro e0 h
  clear hh
  have HNUM := Lib.hid hnum
  clear hnum
  go_enter Tryd.func39, Tryd.ntmps39
  go_wp2_with (first
    | (go_at_call 25; refine (rCheck_c _ _ _ h).mono ?_; rintro e w' ⟨rfl, hq⟩; (first | obtain ⟨p, rfl⟩ := regrown2 hq | obtain ⟨p, rfl⟩ := regrown hq); clear hq)
    | (go_at_call 69; refine (HNUM.out _).mono ?_; rintro e w' ⟨rfl, hq⟩; (first | obtain ⟨p, rfl⟩ := regrown2 hq | obtain ⟨p, rfl⟩ := regrown hq); clear hq))
  go_returns
  exact ⟨rfl, by repeat (first | exact Below.refl _ _ | apply b_alloc | apply b_reg)⟩
set_option maxHeartbeats 4000000 in
set_option maxRecDepth 100000 in
theorem rp_s2_wr (s : Int) (g : Bool) (str : ByteArray) (w : World) (h : vB s = true) (u : Int) (x : Int) (hs : str.size ≤ 20) (h2 : 0 < str.size) (h3 : str.size ≤ 2) (e0 : ¬ ((str[0]'(by omega)).toNat : Int) = 45) (hx : ¬ x = (wrap64 u))
    (hnum : ∀ w, Calls Tryd.prog 69 #[.string str, .int .u64 10] w fun e w' => e = .returned (.tuple #[.int .u64 u, .bool true]) ∧ Below w.heap.size w w')
    (hwr : ∀ w, Calls Tryd.prog 47 #[.agg #[.int .i64 s, .bool g], .int .i64 (wrap64 u)] w fun e w' => e = .returned (.int .i64 x) ∧ Below w.heap.size w w') :
    Calls Tryd.prog 39 #[.agg #[.int .i64 s, .bool g], .string str] w fun e w' => e = .returned (.tuple #[.int .i64 0, .int .i64 13]) ∧ Below w.heap.size w w' := by
  have hmx : str.size ≤ 9223372036854775807 := by omega
  have hh := And.intro hs h
  clear hh
  have hh := And.intro h2 h
  clear hh
  have hh := And.intro h3 h
  clear hh
  have hh := And.intro e0 h
  clear hh
  have hh := And.intro hx h
  clear hh
  have HNUM := Lib.hid hnum
  have HWR := Lib.hid hwr
  clear hnum hwr
  go_enter Tryd.func39, Tryd.ntmps39
  go_wp2_with (first
    | (go_at_call 25; refine (rCheck_c _ _ _ h).mono ?_; rintro e w' ⟨rfl, hq⟩; (first | obtain ⟨p, rfl⟩ := regrown2 hq | obtain ⟨p, rfl⟩ := regrown hq); clear hq)
    | (go_at_call 69; refine (HNUM.out _).mono ?_; rintro e w' ⟨rfl, hq⟩; (first | obtain ⟨p, rfl⟩ := regrown2 hq | obtain ⟨p, rfl⟩ := regrown hq); clear hq)
    | (go_at_call 47; refine (HWR.out _).mono ?_; rintro e w' ⟨rfl, hq⟩; (first | obtain ⟨p, rfl⟩ := regrown2 hq | obtain ⟨p, rfl⟩ := regrown hq); clear hq))
  go_returns
  exact ⟨rfl, by repeat (first | exact Below.refl _ _ | apply b_alloc | apply b_reg)⟩
set_option maxHeartbeats 4000000 in
set_option maxRecDepth 100000 in
theorem rp_s2_tx (s : Int) (g : Bool) (str : ByteArray) (w : World) (h : vB s = true) (u : Int) (T : ByteArray) (hs : str.size ≤ 20) (h2 : 0 < str.size) (h3 : str.size ≤ 2) (e0 : ¬ ((str[0]'(by omega)).toNat : Int) = 45) (ht : (T.toList == str.toList) = false)
    (hnum : ∀ w, Calls Tryd.prog 69 #[.string str, .int .u64 10] w fun e w' => e = .returned (.tuple #[.int .u64 u, .bool true]) ∧ Below w.heap.size w w')
    (hwr : ∀ w, Calls Tryd.prog 47 #[.agg #[.int .i64 s, .bool g], .int .i64 (wrap64 u)] w fun e w' => e = .returned (.int .i64 (wrap64 u)) ∧ Below w.heap.size w w')
    (htx : ∀ w, Calls Tryd.prog 37 #[.agg #[.int .i64 s, .bool g], .int .i64 (wrap64 u)] w fun e w' => e = .returned (.tuple #[.string T, .int .i64 0]) ∧ Below w.heap.size w w') :
    Calls Tryd.prog 39 #[.agg #[.int .i64 s, .bool g], .string str] w fun e w' => e = .returned (.tuple #[.int .i64 0, .int .i64 13]) ∧ Below w.heap.size w w' := by
  have hmx : str.size ≤ 9223372036854775807 := by omega
  have hh := And.intro hs h
  clear hh
  have hh := And.intro h2 h
  clear hh
  have hh := And.intro h3 h
  clear hh
  have hh := And.intro e0 h
  clear hh
  have hh := And.intro ht h
  clear hh
  have HNUM := Lib.hid hnum
  have HWR := Lib.hid hwr
  have HTX := Lib.hid htx
  clear hnum hwr htx
  go_enter Tryd.func39, Tryd.ntmps39
  go_wp2_with (first
    | (go_at_call 25; refine (rCheck_c _ _ _ h).mono ?_; rintro e w' ⟨rfl, hq⟩; (first | obtain ⟨p, rfl⟩ := regrown2 hq | obtain ⟨p, rfl⟩ := regrown hq); clear hq)
    | (go_at_call 69; refine (HNUM.out _).mono ?_; rintro e w' ⟨rfl, hq⟩; (first | obtain ⟨p, rfl⟩ := regrown2 hq | obtain ⟨p, rfl⟩ := regrown hq); clear hq)
    | (go_at_call 47; refine (HWR.out _).mono ?_; rintro e w' ⟨rfl, hq⟩; (first | obtain ⟨p, rfl⟩ := regrown2 hq | obtain ⟨p, rfl⟩ := regrown hq); clear hq)
    | (go_at_call 37; refine (HTX.out _).mono ?_; rintro e w' ⟨rfl, hq⟩; (first | obtain ⟨p, rfl⟩ := regrown2 hq | obtain ⟨p, rfl⟩ := regrown hq); clear hq))
  go_returns
  exact ⟨rfl, by repeat (first | exact Below.refl _ _ | apply b_alloc | apply b_reg)⟩
set_option maxHeartbeats 4000000 in
set_option maxRecDepth 100000 in
theorem rp_s2_ok (s : Int) (g : Bool) (str : ByteArray) (w : World) (h : vB s = true) (u : Int) (hs : str.size ≤ 20) (h2 : 0 < str.size) (h3 : str.size ≤ 2) (e0 : ¬ ((str[0]'(by omega)).toNat : Int) = 45)
    (hnum : ∀ w, Calls Tryd.prog 69 #[.string str, .int .u64 10] w fun e w' => e = .returned (.tuple #[.int .u64 u, .bool true]) ∧ Below w.heap.size w w')
    (hwr : ∀ w, Calls Tryd.prog 47 #[.agg #[.int .i64 s, .bool g], .int .i64 (wrap64 u)] w fun e w' => e = .returned (.int .i64 (wrap64 u)) ∧ Below w.heap.size w w')
    (htx : ∀ w, Calls Tryd.prog 37 #[.agg #[.int .i64 s, .bool g], .int .i64 (wrap64 u)] w fun e w' => e = .returned (.tuple #[.string str, .int .i64 0]) ∧ Below w.heap.size w w') :
    Calls Tryd.prog 39 #[.agg #[.int .i64 s, .bool g], .string str] w fun e w' => e = .returned (.tuple #[.int .i64 (wrap64 u), .int .i64 0]) ∧ Below w.heap.size w w' := by
  have hmx : str.size ≤ 9223372036854775807 := by omega
  have hh := And.intro hs h
  clear hh
  have hh := And.intro h2 h
  clear hh
  have hh := And.intro h3 h
  clear hh
  have hh := And.intro e0 h
  clear hh
  have HNUM := Lib.hid hnum
  have HWR := Lib.hid hwr
  have HTX := Lib.hid htx
  clear hnum hwr htx
  go_enter Tryd.func39, Tryd.ntmps39
  go_wp2_with (first
    | (go_at_call 25; refine (rCheck_c _ _ _ h).mono ?_; rintro e w' ⟨rfl, hq⟩; (first | obtain ⟨p, rfl⟩ := regrown2 hq | obtain ⟨p, rfl⟩ := regrown hq); clear hq)
    | (go_at_call 69; refine (HNUM.out _).mono ?_; rintro e w' ⟨rfl, hq⟩; (first | obtain ⟨p, rfl⟩ := regrown2 hq | obtain ⟨p, rfl⟩ := regrown hq); clear hq)
    | (go_at_call 47; refine (HWR.out _).mono ?_; rintro e w' ⟨rfl, hq⟩; (first | obtain ⟨p, rfl⟩ := regrown2 hq | obtain ⟨p, rfl⟩ := regrown hq); clear hq)
    | (go_at_call 37; refine (HTX.out _).mono ?_; rintro e w' ⟨rfl, hq⟩; (first | obtain ⟨p, rfl⟩ := regrown2 hq | obtain ⟨p, rfl⟩ := regrown hq); clear hq))
  go_returns
  exact ⟨rfl, by repeat (first | exact Below.refl _ _ | apply b_alloc | apply b_reg)⟩
set_option maxHeartbeats 4000000 in
set_option maxRecDepth 100000 in
theorem rp_s3_none (s : Int) (g : Bool) (str : ByteArray) (w : World) (h : vB s = true) (u : Int) (hs : str.size ≤ 20) (h2 : 2 < str.size) (e0 : ((str[0]'(by omega)).toNat : Int) = 45)
    (hnum : ∀ w, Calls Tryd.prog 69 #[.string (str.extract 1 str.size), .int .u64 10] w fun e w' => e = .returned (.tuple #[.int .u64 u, .bool false]) ∧ Below w.heap.size w w') :
    Calls Tryd.prog 39 #[.agg #[.int .i64 s, .bool g], .string str] w fun e w' => e = .returned (.tuple #[.int .i64 0, .int .i64 13]) ∧ Below w.heap.size w w' := by
  have hmx : str.size ≤ 9223372036854775807 := by omega
  have hh := And.intro hs h
  clear hh
  have hh := And.intro h2 h
  clear hh
  have hh := And.intro e0 h
  clear hh
  have HNUM := Lib.hid hnum
  clear hnum
  go_enter Tryd.func39, Tryd.ntmps39
  go_wp2_with (first
    | (go_at_call 25; refine (rCheck_c _ _ _ h).mono ?_; rintro e w' ⟨rfl, hq⟩; (first | obtain ⟨p, rfl⟩ := regrown2 hq | obtain ⟨p, rfl⟩ := regrown hq); clear hq)
    | (go_at_call 69; refine (HNUM.out _).mono ?_; rintro e w' ⟨rfl, hq⟩; (first | obtain ⟨p, rfl⟩ := regrown2 hq | obtain ⟨p, rfl⟩ := regrown hq); clear hq))
  go_returns
  exact ⟨rfl, by repeat (first | exact Below.refl _ _ | apply b_alloc | apply b_reg)⟩
set_option maxHeartbeats 4000000 in
set_option maxRecDepth 100000 in
theorem rp_s3_wr (s : Int) (g : Bool) (str : ByteArray) (w : World) (h : vB s = true) (u : Int) (x : Int) (hs : str.size ≤ 20) (h2 : 2 < str.size) (e0 : ((str[0]'(by omega)).toNat : Int) = 45) (hx : ¬ x = (wrap64 (-(wrap64 u))))
    (hnum : ∀ w, Calls Tryd.prog 69 #[.string (str.extract 1 str.size), .int .u64 10] w fun e w' => e = .returned (.tuple #[.int .u64 u, .bool true]) ∧ Below w.heap.size w w')
    (hwr : ∀ w, Calls Tryd.prog 47 #[.agg #[.int .i64 s, .bool g], .int .i64 (wrap64 (-(wrap64 u)))] w fun e w' => e = .returned (.int .i64 x) ∧ Below w.heap.size w w') :
    Calls Tryd.prog 39 #[.agg #[.int .i64 s, .bool g], .string str] w fun e w' => e = .returned (.tuple #[.int .i64 0, .int .i64 13]) ∧ Below w.heap.size w w' := by
  have hmx : str.size ≤ 9223372036854775807 := by omega
  have hh := And.intro hs h
  clear hh
  have hh := And.intro h2 h
  clear hh
  have hh := And.intro e0 h
  clear hh
  have hh := And.intro hx h
  clear hh
  have HNUM := Lib.hid hnum
  have HWR := Lib.hid hwr
  clear hnum hwr
  go_enter Tryd.func39, Tryd.ntmps39
  go_wp2_with (first
    | (go_at_call 25; refine (rCheck_c _ _ _ h).mono ?_; rintro e w' ⟨rfl, hq⟩; (first | obtain ⟨p, rfl⟩ := regrown2 hq | obtain ⟨p, rfl⟩ := regrown hq); clear hq)
    | (go_at_call 69; refine (HNUM.out _).mono ?_; rintro e w' ⟨rfl, hq⟩; (first | obtain ⟨p, rfl⟩ := regrown2 hq | obtain ⟨p, rfl⟩ := regrown hq); clear hq)
    | (go_at_call 47; refine (HWR.out _).mono ?_; rintro e w' ⟨rfl, hq⟩; (first | obtain ⟨p, rfl⟩ := regrown2 hq | obtain ⟨p, rfl⟩ := regrown hq); clear hq))
  go_returns
  exact ⟨rfl, by repeat (first | exact Below.refl _ _ | apply b_alloc | apply b_reg)⟩
set_option maxHeartbeats 4000000 in
set_option maxRecDepth 100000 in
theorem rp_s3_tx (s : Int) (g : Bool) (str : ByteArray) (w : World) (h : vB s = true) (u : Int) (T : ByteArray) (hs : str.size ≤ 20) (h2 : 2 < str.size) (e0 : ((str[0]'(by omega)).toNat : Int) = 45) (ht : (T.toList == str.toList) = false)
    (hnum : ∀ w, Calls Tryd.prog 69 #[.string (str.extract 1 str.size), .int .u64 10] w fun e w' => e = .returned (.tuple #[.int .u64 u, .bool true]) ∧ Below w.heap.size w w')
    (hwr : ∀ w, Calls Tryd.prog 47 #[.agg #[.int .i64 s, .bool g], .int .i64 (wrap64 (-(wrap64 u)))] w fun e w' => e = .returned (.int .i64 (wrap64 (-(wrap64 u)))) ∧ Below w.heap.size w w')
    (htx : ∀ w, Calls Tryd.prog 37 #[.agg #[.int .i64 s, .bool g], .int .i64 (wrap64 (-(wrap64 u)))] w fun e w' => e = .returned (.tuple #[.string T, .int .i64 0]) ∧ Below w.heap.size w w') :
    Calls Tryd.prog 39 #[.agg #[.int .i64 s, .bool g], .string str] w fun e w' => e = .returned (.tuple #[.int .i64 0, .int .i64 13]) ∧ Below w.heap.size w w' := by
  have hmx : str.size ≤ 9223372036854775807 := by omega
  have hh := And.intro hs h
  clear hh
  have hh := And.intro h2 h
  clear hh
  have hh := And.intro e0 h
  clear hh
  have hh := And.intro ht h
  clear hh
  have HNUM := Lib.hid hnum
  have HWR := Lib.hid hwr
  have HTX := Lib.hid htx
  clear hnum hwr htx
  go_enter Tryd.func39, Tryd.ntmps39
  go_wp2_with (first
    | (go_at_call 25; refine (rCheck_c _ _ _ h).mono ?_; rintro e w' ⟨rfl, hq⟩; (first | obtain ⟨p, rfl⟩ := regrown2 hq | obtain ⟨p, rfl⟩ := regrown hq); clear hq)
    | (go_at_call 69; refine (HNUM.out _).mono ?_; rintro e w' ⟨rfl, hq⟩; (first | obtain ⟨p, rfl⟩ := regrown2 hq | obtain ⟨p, rfl⟩ := regrown hq); clear hq)
    | (go_at_call 47; refine (HWR.out _).mono ?_; rintro e w' ⟨rfl, hq⟩; (first | obtain ⟨p, rfl⟩ := regrown2 hq | obtain ⟨p, rfl⟩ := regrown hq); clear hq)
    | (go_at_call 37; refine (HTX.out _).mono ?_; rintro e w' ⟨rfl, hq⟩; (first | obtain ⟨p, rfl⟩ := regrown2 hq | obtain ⟨p, rfl⟩ := regrown hq); clear hq))
  go_returns
  exact ⟨rfl, by repeat (first | exact Below.refl _ _ | apply b_alloc | apply b_reg)⟩
set_option maxHeartbeats 4000000 in
set_option maxRecDepth 100000 in
theorem rp_s3_ok (s : Int) (g : Bool) (str : ByteArray) (w : World) (h : vB s = true) (u : Int) (hs : str.size ≤ 20) (h2 : 2 < str.size) (e0 : ((str[0]'(by omega)).toNat : Int) = 45)
    (hnum : ∀ w, Calls Tryd.prog 69 #[.string (str.extract 1 str.size), .int .u64 10] w fun e w' => e = .returned (.tuple #[.int .u64 u, .bool true]) ∧ Below w.heap.size w w')
    (hwr : ∀ w, Calls Tryd.prog 47 #[.agg #[.int .i64 s, .bool g], .int .i64 (wrap64 (-(wrap64 u)))] w fun e w' => e = .returned (.int .i64 (wrap64 (-(wrap64 u)))) ∧ Below w.heap.size w w')
    (htx : ∀ w, Calls Tryd.prog 37 #[.agg #[.int .i64 s, .bool g], .int .i64 (wrap64 (-(wrap64 u)))] w fun e w' => e = .returned (.tuple #[.string str, .int .i64 0]) ∧ Below w.heap.size w w') :
    Calls Tryd.prog 39 #[.agg #[.int .i64 s, .bool g], .string str] w fun e w' => e = .returned (.tuple #[.int .i64 (wrap64 (-(wrap64 u))), .int .i64 0]) ∧ Below w.heap.size w w' := by
  have hmx : str.size ≤ 9223372036854775807 := by omega
  have hh := And.intro hs h
  clear hh
  have hh := And.intro h2 h
  clear hh
  have hh := And.intro e0 h
  clear hh
  have HNUM := Lib.hid hnum
  have HWR := Lib.hid hwr
  have HTX := Lib.hid htx
  clear hnum hwr htx
  go_enter Tryd.func39, Tryd.ntmps39
  go_wp2_with (first
    | (go_at_call 25; refine (rCheck_c _ _ _ h).mono ?_; rintro e w' ⟨rfl, hq⟩; (first | obtain ⟨p, rfl⟩ := regrown2 hq | obtain ⟨p, rfl⟩ := regrown hq); clear hq)
    | (go_at_call 69; refine (HNUM.out _).mono ?_; rintro e w' ⟨rfl, hq⟩; (first | obtain ⟨p, rfl⟩ := regrown2 hq | obtain ⟨p, rfl⟩ := regrown hq); clear hq)
    | (go_at_call 47; refine (HWR.out _).mono ?_; rintro e w' ⟨rfl, hq⟩; (first | obtain ⟨p, rfl⟩ := regrown2 hq | obtain ⟨p, rfl⟩ := regrown hq); clear hq)
    | (go_at_call 37; refine (HTX.out _).mono ?_; rintro e w' ⟨rfl, hq⟩; (first | obtain ⟨p, rfl⟩ := regrown2 hq | obtain ⟨p, rfl⟩ := regrown hq); clear hq))
  go_returns
  exact ⟨rfl, by repeat (first | exact Below.refl _ _ | apply b_alloc | apply b_reg)⟩
set_option maxHeartbeats 4000000 in
set_option maxRecDepth 100000 in
theorem rp_s4_none (s : Int) (g : Bool) (str : ByteArray) (w : World) (h : vB s = true) (u : Int) (hs : str.size ≤ 20) (h2 : 2 < str.size) (e0 : ¬ ((str[0]'(by omega)).toNat : Int) = 45) (e1 : ¬ ((str[0]'(by omega)).toNat : Int) = 48)
    (hnum : ∀ w, Calls Tryd.prog 69 #[.string str, .int .u64 10] w fun e w' => e = .returned (.tuple #[.int .u64 u, .bool false]) ∧ Below w.heap.size w w') :
    Calls Tryd.prog 39 #[.agg #[.int .i64 s, .bool g], .string str] w fun e w' => e = .returned (.tuple #[.int .i64 0, .int .i64 13]) ∧ Below w.heap.size w w' := by
  have hmx : str.size ≤ 9223372036854775807 := by omega
  have hh := And.intro hs h
  clear hh
  have hh := And.intro h2 h
  clear hh
  have hh := And.intro e0 h
  clear hh
  have hh := And.intro e1 h
  clear hh
  have HNUM := Lib.hid hnum
  clear hnum
  go_enter Tryd.func39, Tryd.ntmps39
  go_wp2_with (first
    | (go_at_call 25; refine (rCheck_c _ _ _ h).mono ?_; rintro e w' ⟨rfl, hq⟩; (first | obtain ⟨p, rfl⟩ := regrown2 hq | obtain ⟨p, rfl⟩ := regrown hq); clear hq)
    | (go_at_call 69; refine (HNUM.out _).mono ?_; rintro e w' ⟨rfl, hq⟩; (first | obtain ⟨p, rfl⟩ := regrown2 hq | obtain ⟨p, rfl⟩ := regrown hq); clear hq))
  go_returns
  exact ⟨rfl, by repeat (first | exact Below.refl _ _ | apply b_alloc | apply b_reg)⟩
set_option maxHeartbeats 4000000 in
set_option maxRecDepth 100000 in
theorem rp_s4_wr (s : Int) (g : Bool) (str : ByteArray) (w : World) (h : vB s = true) (u : Int) (x : Int) (hs : str.size ≤ 20) (h2 : 2 < str.size) (e0 : ¬ ((str[0]'(by omega)).toNat : Int) = 45) (e1 : ¬ ((str[0]'(by omega)).toNat : Int) = 48) (hx : ¬ x = (wrap64 u))
    (hnum : ∀ w, Calls Tryd.prog 69 #[.string str, .int .u64 10] w fun e w' => e = .returned (.tuple #[.int .u64 u, .bool true]) ∧ Below w.heap.size w w')
    (hwr : ∀ w, Calls Tryd.prog 47 #[.agg #[.int .i64 s, .bool g], .int .i64 (wrap64 u)] w fun e w' => e = .returned (.int .i64 x) ∧ Below w.heap.size w w') :
    Calls Tryd.prog 39 #[.agg #[.int .i64 s, .bool g], .string str] w fun e w' => e = .returned (.tuple #[.int .i64 0, .int .i64 13]) ∧ Below w.heap.size w w' := by
  have hmx : str.size ≤ 9223372036854775807 := by omega
  have hh := And.intro hs h
  clear hh
  have hh := And.intro h2 h
  clear hh
  have hh := And.intro e0 h
  clear hh
  have hh := And.intro e1 h
  clear hh
  have hh := And.intro hx h
  clear hh
  have HNUM := Lib.hid hnum
  have HWR := Lib.hid hwr
  clear hnum hwr
  go_enter Tryd.func39, Tryd.ntmps39
  go_wp2_with (first
    | (go_at_call 25; refine (rCheck_c _ _ _ h).mono ?_; rintro e w' ⟨rfl, hq⟩; (first | obtain ⟨p, rfl⟩ := regrown2 hq | obtain ⟨p, rfl⟩ := regrown hq); clear hq)
    | (go_at_call 69; refine (HNUM.out _).mono ?_; rintro e w' ⟨rfl, hq⟩; (first | obtain ⟨p, rfl⟩ := regrown2 hq | obtain ⟨p, rfl⟩ := regrown hq); clear hq)
    | (go_at_call 47; refine (HWR.out _).mono ?_; rintro e w' ⟨rfl, hq⟩; (first | obtain ⟨p, rfl⟩ := regrown2 hq | obtain ⟨p, rfl⟩ := regrown hq); clear hq))
  go_returns
  exact ⟨rfl, by repeat (first | exact Below.refl _ _ | apply b_alloc | apply b_reg)⟩
set_option maxHeartbeats 4000000 in
set_option maxRecDepth 100000 in
theorem rp_s4_tx (s : Int) (g : Bool) (str : ByteArray) (w : World) (h : vB s = true) (u : Int) (T : ByteArray) (hs : str.size ≤ 20) (h2 : 2 < str.size) (e0 : ¬ ((str[0]'(by omega)).toNat : Int) = 45) (e1 : ¬ ((str[0]'(by omega)).toNat : Int) = 48) (ht : (T.toList == str.toList) = false)
    (hnum : ∀ w, Calls Tryd.prog 69 #[.string str, .int .u64 10] w fun e w' => e = .returned (.tuple #[.int .u64 u, .bool true]) ∧ Below w.heap.size w w')
    (hwr : ∀ w, Calls Tryd.prog 47 #[.agg #[.int .i64 s, .bool g], .int .i64 (wrap64 u)] w fun e w' => e = .returned (.int .i64 (wrap64 u)) ∧ Below w.heap.size w w')
    (htx : ∀ w, Calls Tryd.prog 37 #[.agg #[.int .i64 s, .bool g], .int .i64 (wrap64 u)] w fun e w' => e = .returned (.tuple #[.string T, .int .i64 0]) ∧ Below w.heap.size w w') :
    Calls Tryd.prog 39 #[.agg #[.int .i64 s, .bool g], .string str] w fun e w' => e = .returned (.tuple #[.int .i64 0, .int .i64 13]) ∧ Below w.heap.size w w' := by
  have hmx : str.size ≤ 9223372036854775807 := by omega
  have hh := And.intro hs h
  clear hh
  have hh := And.intro h2 h
  clear hh
  have hh := And.intro e0 h
  clear hh
  have hh := And.intro e1 h
  clear hh
  have hh := And.intro ht h
  clear hh
  have HNUM := Lib.hid hnum
  have HWR := Lib.hid hwr
  have HTX := Lib.hid htx
  clear hnum hwr htx
  go_enter Tryd.func39, Tryd.ntmps39
  go_wp2_with (first
    | (go_at_call 25; refine (rCheck_c _ _ _ h).mono ?_; rintro e w' ⟨rfl, hq⟩; (first | obtain ⟨p, rfl⟩ := regrown2 hq | obtain ⟨p, rfl⟩ := regrown hq); clear hq)
    | (go_at_call 69; refine (HNUM.out _).mono ?_; rintro e w' ⟨rfl, hq⟩; (first | obtain ⟨p, rfl⟩ := regrown2 hq | obtain ⟨p, rfl⟩ := regrown hq); clear hq)
    | (go_at_call 47; refine (HWR.out _).mono ?_; rintro e w' ⟨rfl, hq⟩; (first | obtain ⟨p, rfl⟩ := regrown2 hq | obtain ⟨p, rfl⟩ := regrown hq); clear hq)
    | (go_at_call 37; refine (HTX.out _).mono ?_; rintro e w' ⟨rfl, hq⟩; (first | obtain ⟨p, rfl⟩ := regrown2 hq | obtain ⟨p, rfl⟩ := regrown hq); clear hq))
  go_returns
  exact ⟨rfl, by repeat (first | exact Below.refl _ _ | apply b_alloc | apply b_reg)⟩
set_option maxHeartbeats 4000000 in
set_option maxRecDepth 100000 in
theorem rp_s4_ok (s : Int) (g : Bool) (str : ByteArray) (w : World) (h : vB s = true) (u : Int) (hs : str.size ≤ 20) (h2 : 2 < str.size) (e0 : ¬ ((str[0]'(by omega)).toNat : Int) = 45) (e1 : ¬ ((str[0]'(by omega)).toNat : Int) = 48)
    (hnum : ∀ w, Calls Tryd.prog 69 #[.string str, .int .u64 10] w fun e w' => e = .returned (.tuple #[.int .u64 u, .bool true]) ∧ Below w.heap.size w w')
    (hwr : ∀ w, Calls Tryd.prog 47 #[.agg #[.int .i64 s, .bool g], .int .i64 (wrap64 u)] w fun e w' => e = .returned (.int .i64 (wrap64 u)) ∧ Below w.heap.size w w')
    (htx : ∀ w, Calls Tryd.prog 37 #[.agg #[.int .i64 s, .bool g], .int .i64 (wrap64 u)] w fun e w' => e = .returned (.tuple #[.string str, .int .i64 0]) ∧ Below w.heap.size w w') :
    Calls Tryd.prog 39 #[.agg #[.int .i64 s, .bool g], .string str] w fun e w' => e = .returned (.tuple #[.int .i64 (wrap64 u), .int .i64 0]) ∧ Below w.heap.size w w' := by
  have hmx : str.size ≤ 9223372036854775807 := by omega
  have hh := And.intro hs h
  clear hh
  have hh := And.intro h2 h
  clear hh
  have hh := And.intro e0 h
  clear hh
  have hh := And.intro e1 h
  clear hh
  have HNUM := Lib.hid hnum
  have HWR := Lib.hid hwr
  have HTX := Lib.hid htx
  clear hnum hwr htx
  go_enter Tryd.func39, Tryd.ntmps39
  go_wp2_with (first
    | (go_at_call 25; refine (rCheck_c _ _ _ h).mono ?_; rintro e w' ⟨rfl, hq⟩; (first | obtain ⟨p, rfl⟩ := regrown2 hq | obtain ⟨p, rfl⟩ := regrown hq); clear hq)
    | (go_at_call 69; refine (HNUM.out _).mono ?_; rintro e w' ⟨rfl, hq⟩; (first | obtain ⟨p, rfl⟩ := regrown2 hq | obtain ⟨p, rfl⟩ := regrown hq); clear hq)
    | (go_at_call 47; refine (HWR.out _).mono ?_; rintro e w' ⟨rfl, hq⟩; (first | obtain ⟨p, rfl⟩ := regrown2 hq | obtain ⟨p, rfl⟩ := regrown hq); clear hq)
    | (go_at_call 37; refine (HTX.out _).mono ?_; rintro e w' ⟨rfl, hq⟩; (first | obtain ⟨p, rfl⟩ := regrown2 hq | obtain ⟨p, rfl⟩ := regrown hq); clear hq))
  go_returns
  exact ⟨rfl, by repeat (first | exact Below.refl _ _ | apply b_alloc | apply b_reg)⟩
set_option maxHeartbeats 4000000 in
set_option maxRecDepth 100000 in
theorem rp_s5_none (s : Int) (g : Bool) (str : ByteArray) (w : World) (h : vB s = true) (u : Int) (hs : str.size ≤ 20) (h2 : 2 < str.size) (e0 : ((str[0]'(by omega)).toNat : Int) = 48) (e1 : ¬ ((str[1]'(by omega)).toNat : Int) = 120)
    (hnum : ∀ w, Calls Tryd.prog 69 #[.string str, .int .u64 10] w fun e w' => e = .returned (.tuple #[.int .u64 u, .bool false]) ∧ Below w.heap.size w w') :
    Calls Tryd.prog 39 #[.agg #[.int .i64 s, .bool g], .string str] w fun e w' => e = .returned (.tuple #[.int .i64 0, .int .i64 13]) ∧ Below w.heap.size w w' := by
  have hmx : str.size ≤ 9223372036854775807 := by omega
  have hh := And.intro hs h
  clear hh
  have hh := And.intro h2 h
  clear hh
  have hh := And.intro e0 h
  clear hh
  have hh := And.intro e1 h
  clear hh
  have HNUM := Lib.hid hnum
  clear hnum
  go_enter Tryd.func39, Tryd.ntmps39
  go_wp2_with (first
    | (go_at_call 25; refine (rCheck_c _ _ _ h).mono ?_; rintro e w' ⟨rfl, hq⟩; (first | obtain ⟨p, rfl⟩ := regrown2 hq | obtain ⟨p, rfl⟩ := regrown hq); clear hq)
    | (go_at_call 69; refine (HNUM.out _).mono ?_; rintro e w' ⟨rfl, hq⟩; (first | obtain ⟨p, rfl⟩ := regrown2 hq | obtain ⟨p, rfl⟩ := regrown hq); clear hq))
  go_returns
  exact ⟨rfl, by repeat (first | exact Below.refl _ _ | apply b_alloc | apply b_reg)⟩
set_option maxHeartbeats 4000000 in
set_option maxRecDepth 100000 in
theorem rp_s5_wr (s : Int) (g : Bool) (str : ByteArray) (w : World) (h : vB s = true) (u : Int) (x : Int) (hs : str.size ≤ 20) (h2 : 2 < str.size) (e0 : ((str[0]'(by omega)).toNat : Int) = 48) (e1 : ¬ ((str[1]'(by omega)).toNat : Int) = 120) (hx : ¬ x = (wrap64 u))
    (hnum : ∀ w, Calls Tryd.prog 69 #[.string str, .int .u64 10] w fun e w' => e = .returned (.tuple #[.int .u64 u, .bool true]) ∧ Below w.heap.size w w')
    (hwr : ∀ w, Calls Tryd.prog 47 #[.agg #[.int .i64 s, .bool g], .int .i64 (wrap64 u)] w fun e w' => e = .returned (.int .i64 x) ∧ Below w.heap.size w w') :
    Calls Tryd.prog 39 #[.agg #[.int .i64 s, .bool g], .string str] w fun e w' => e = .returned (.tuple #[.int .i64 0, .int .i64 13]) ∧ Below w.heap.size w w' := by
  have hmx : str.size ≤ 9223372036854775807 := by omega
  have hh := And.intro hs h
  clear hh
  have hh := And.intro h2 h
  clear hh
  have hh := And.intro e0 h
  clear hh
  have hh := And.intro e1 h
  clear hh
  have hh := And.intro hx h
  clear hh
  have HNUM := Lib.hid hnum
  have HWR := Lib.hid hwr
  clear hnum hwr
  go_enter Tryd.func39, Tryd.ntmps39
  go_wp2_with (first
    | (go_at_call 25; refine (rCheck_c _ _ _ h).mono ?_; rintro e w' ⟨rfl, hq⟩; (first | obtain ⟨p, rfl⟩ := regrown2 hq | obtain ⟨p, rfl⟩ := regrown hq); clear hq)
    | (go_at_call 69; refine (HNUM.out _).mono ?_; rintro e w' ⟨rfl, hq⟩; (first | obtain ⟨p, rfl⟩ := regrown2 hq | obtain ⟨p, rfl⟩ := regrown hq); clear hq)
    | (go_at_call 47; refine (HWR.out _).mono ?_; rintro e w' ⟨rfl, hq⟩; (first | obtain ⟨p, rfl⟩ := regrown2 hq | obtain ⟨p, rfl⟩ := regrown hq); clear hq))
  go_returns
  exact ⟨rfl, by repeat (first | exact Below.refl _ _ | apply b_alloc | apply b_reg)⟩
set_option maxHeartbeats 4000000 in
set_option maxRecDepth 100000 in
theorem rp_s5_tx (s : Int) (g : Bool) (str : ByteArray) (w : World) (h : vB s = true) (u : Int) (T : ByteArray) (hs : str.size ≤ 20) (h2 : 2 < str.size) (e0 : ((str[0]'(by omega)).toNat : Int) = 48) (e1 : ¬ ((str[1]'(by omega)).toNat : Int) = 120) (ht : (T.toList == str.toList) = false)
    (hnum : ∀ w, Calls Tryd.prog 69 #[.string str, .int .u64 10] w fun e w' => e = .returned (.tuple #[.int .u64 u, .bool true]) ∧ Below w.heap.size w w')
    (hwr : ∀ w, Calls Tryd.prog 47 #[.agg #[.int .i64 s, .bool g], .int .i64 (wrap64 u)] w fun e w' => e = .returned (.int .i64 (wrap64 u)) ∧ Below w.heap.size w w')
    (htx : ∀ w, Calls Tryd.prog 37 #[.agg #[.int .i64 s, .bool g], .int .i64 (wrap64 u)] w fun e w' => e = .returned (.tuple #[.string T, .int .i64 0]) ∧ Below w.heap.size w w') :
    Calls Tryd.prog 39 #[.agg #[.int .i64 s, .bool g], .string str] w fun e w' => e = .returned (.tuple #[.int .i64 0, .int .i64 13]) ∧ Below w.heap.size w w' := by
  have hmx : str.size ≤ 9223372036854775807 := by omega
  have hh := And.intro hs h
  clear hh
  have hh := And.intro h2 h
  clear hh
  have hh := And.intro e0 h
  clear hh
  have hh := And.intro e1 h
  clear hh
  have hh := And.intro ht h
  clear hh
  have HNUM := Lib.hid hnum
  have HWR := Lib.hid hwr
  have HTX := Lib.hid htx
  clear hnum hwr htx
  go_enter Tryd.func39, Tryd.ntmps39
  go_wp2_with (first
    | (go_at_call 25; refine (rCheck_c _ _ _ h).mono ?_; rintro e w' ⟨rfl, hq⟩; (first | obtain ⟨p, rfl⟩ := regrown2 hq | obtain ⟨p, rfl⟩ := regrown hq); clear hq)
    | (go_at_call 69; refine (HNUM.out _).mono ?_; rintro e w' ⟨rfl, hq⟩; (first | obtain ⟨p, rfl⟩ := regrown2 hq | obtain ⟨p, rfl⟩ := regrown hq); clear hq)
    | (go_at_call 47; refine (HWR.out _).mono ?_; rintro e w' ⟨rfl, hq⟩; (first | obtain ⟨p, rfl⟩ := regrown2 hq | obtain ⟨p, rfl⟩ := regrown hq); clear hq)
    | (go_at_call 37; refine (HTX.out _).mono ?_; rintro e w' ⟨rfl, hq⟩; (first | obtain ⟨p, rfl⟩ := regrown2 hq | obtain ⟨p, rfl⟩ := regrown hq); clear hq))
  go_returns
  exact ⟨rfl, by repeat (first | exact Below.refl _ _ | apply b_alloc | apply b_reg)⟩
set_option maxHeartbeats 4000000 in
set_option maxRecDepth 100000 in
theorem rp_s5_ok (s : Int) (g : Bool) (str : ByteArray) (w : World) (h : vB s = true) (u : Int) (hs : str.size ≤ 20) (h2 : 2 < str.size) (e0 : ((str[0]'(by omega)).toNat : Int) = 48) (e1 : ¬ ((str[1]'(by omega)).toNat : Int) = 120)
    (hnum : ∀ w, Calls Tryd.prog 69 #[.string str, .int .u64 10] w fun e w' => e = .returned (.tuple #[.int .u64 u, .bool true]) ∧ Below w.heap.size w w')
    (hwr : ∀ w, Calls Tryd.prog 47 #[.agg #[.int .i64 s, .bool g], .int .i64 (wrap64 u)] w fun e w' => e = .returned (.int .i64 (wrap64 u)) ∧ Below w.heap.size w w')
    (htx : ∀ w, Calls Tryd.prog 37 #[.agg #[.int .i64 s, .bool g], .int .i64 (wrap64 u)] w fun e w' => e = .returned (.tuple #[.string str, .int .i64 0]) ∧ Below w.heap.size w w') :
    Calls Tryd.prog 39 #[.agg #[.int .i64 s, .bool g], .string str] w fun e w' => e = .returned (.tuple #[.int .i64 (wrap64 u), .int .i64 0]) ∧ Below w.heap.size w w' := by
  have hmx : str.size ≤ 9223372036854775807 := by omega
  have hh := And.intro hs h
  clear hh
  have hh := And.intro h2 h
  clear hh
  have hh := And.intro e0 h
  clear hh
  have hh := And.intro e1 h
  clear hh
  have HNUM := Lib.hid hnum
  have HWR := Lib.hid hwr
  have HTX := Lib.hid htx
  clear hnum hwr htx
  go_enter Tryd.func39, Tryd.ntmps39
  go_wp2_with (first
    | (go_at_call 25; refine (rCheck_c _ _ _ h).mono ?_; rintro e w' ⟨rfl, hq⟩; (first | obtain ⟨p, rfl⟩ := regrown2 hq | obtain ⟨p, rfl⟩ := regrown hq); clear hq)
    | (go_at_call 69; refine (HNUM.out _).mono ?_; rintro e w' ⟨rfl, hq⟩; (first | obtain ⟨p, rfl⟩ := regrown2 hq | obtain ⟨p, rfl⟩ := regrown hq); clear hq)
    | (go_at_call 47; refine (HWR.out _).mono ?_; rintro e w' ⟨rfl, hq⟩; (first | obtain ⟨p, rfl⟩ := regrown2 hq | obtain ⟨p, rfl⟩ := regrown hq); clear hq)
    | (go_at_call 37; refine (HTX.out _).mono ?_; rintro e w' ⟨rfl, hq⟩; (first | obtain ⟨p, rfl⟩ := regrown2 hq | obtain ⟨p, rfl⟩ := regrown hq); clear hq))
  go_returns
  exact ⟨rfl, by repeat (first | exact Below.refl _ _ | apply b_alloc | apply b_reg)⟩
set_option maxHeartbeats 4000000 in
set_option maxRecDepth 100000 in
theorem rp_long (s : Int) (g : Bool) (str : ByteArray) (w : World) (h : vB s = true) (hs : 20 < str.size) (hmx : str.size ≤ 9223372036854775807) :
    Calls Tryd.prog 39 #[.agg #[.int .i64 s, .bool g], .string str] w fun e w' => e = .returned (.tuple #[.int .i64 0, .int .i64 13]) ∧ Below w.heap.size w w' := by
  go_enter Tryd.func39, Tryd.ntmps39
  go_wp2_with (go_at_call 25; refine (rCheck_c _ _ _ h).mono ?_; rintro e w' ⟨rfl, hq⟩; (first | obtain ⟨p, rfl⟩ := regrown2 hq | obtain ⟨p, rfl⟩ := regrown hq); clear hq)
  go_returns
  exact ⟨rfl, by repeat (first | exact Below.refl _ _ | apply b_alloc | apply b_reg)⟩
set_option maxHeartbeats 4000000 in
set_option maxRecDepth 100000 in
theorem rParse_no (s : Int) (g : Bool) (str : ByteArray) (w : World) (h : vB s = false) :
    Calls Tryd.prog 39 #[.agg #[.int .i64 s, .bool g], .string str] w fun e w' => e = .returned (.tuple #[.int .i64 0, .int .i64 10]) ∧ Below w.heap.size w w' := by
  go_enter Tryd.func39, Tryd.ntmps39
  go_wp2_with (go_at_call 25; refine (rCheck_no _ _ _ h).mono ?_; rintro e w' ⟨rfl, hq⟩; (first | obtain ⟨p, rfl⟩ := regrown2 hq | obtain ⟨p, rfl⟩ := regrown hq); clear hq)
  go_returns
  exact ⟨rfl, by repeat (first | exact Below.refl _ _ | apply b_alloc | apply b_reg)⟩
end Go.Proofs.YtfgmfkiknogdeaaDoor
