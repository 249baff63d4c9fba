/- WHAT IS PROVED: taplinelaw03.MemApart walked, over contracts of mem.Check, mem.Store, mem.Same (letters). CONDITIONS: those contracts. -/
import Derived.Test.YtdbcbmdekdfdoaaAr
import Derived.Test.YtdbcbmdekdfdoaaMf
namespace Go.QrMem
open Go Go.RowKit Go.QrBits
/-- Two stores into a listed block of two cells, which is new. -/
theorem Kw.put2l {l1 l2 : List (Nat × List Value × TypeId)} {b : Nat} {u v x y : Value} {t : TypeId} {w0 w : World} (h : Kw (l1 ++ (b, [u, v], t) :: l2) w0 w) (hb : w0.heap.size ≤ b) (hne : ∀ f ∈ l1 ++ l2, f.1 ≠ b) :
    Kw (l1 ++ (b, [x, y], t) :: l2) w0 ((w.setCell ⟨b, 0, none⟩ x).setCell ⟨b, 1, none⟩ y) := by
  refine ⟨(h.base.setCell hb _).setCell hb _, fun f hf => ?_⟩
  by_cases e : f = (b, [x, y], t)
  · subst e
    have h0 := h.blk (b, [u, v], t) (List.mem_append_right _ (List.mem_cons_self ..))
    have h1 := heap_setCell_same w b 0 [u, v].toArray t x h0
    have h2 := heap_setCell_same _ b 1 _ t y h1
    simpa using h2
  · have hf' : f ∈ l1 ++ l2 := by
      rcases List.mem_append.1 hf with h | h
      · exact List.mem_append_left _ h
      · rcases List.mem_cons.1 h with h | h
        · exact (e h).elim
        · exact List.mem_append_right _ h
    rw [Below.heap_setCell _ _ _ _ (hne f hf'), Below.heap_setCell _ _ _ _ (hne f hf')]
    refine h.blk f ?_
    rcases List.mem_append.1 hf' with h | h
    · exact List.mem_append_left _ h
    · exact List.mem_append_right _ (List.mem_cons_of_mem _ h)
end Go.QrMem
namespace Go.Proofs.Ytdbcbmdekdfdoaa
open Go Go.RowKit Go.QrBits Go.QrMem

attribute [local go_sem] Oper.semAt_some
/-- What Store answers: a space. -/
def StY (P B : List Int) (t s : Int) (g : Bool) (v : Int) (B' : List Int) : Prop := ∀ (a : Option Addr) (c : Nat) (a2 : Option Addr) (c2 : Nat) (w : World), SpIn w a c a2 c2 P B → Calls Try.prog 34 #[.agg #[.slice a P.length c, .slice a2 B.length c2], .int .i64 t, .agg #[.int .i64 s, .bool g], .int .i64 v] w (SpOut3 P B' w)
/-- What Store answers: a fault. -/
def StF (P B : List Int) (t s : Int) (g : Bool) (v k x : Int) : Prop := ∀ (a : Option Addr) (c : Nat) (a2 : Option Addr) (c2 : Nat) (w : World), SpIn w a c a2 c2 P B → Calls Try.prog 34 #[.agg #[.slice a P.length c, .slice a2 B.length c2], .int .i64 t, .agg #[.int .i64 s, .bool g], .int .i64 v] w fun e w' => e = .returned (.tuple #[.agg #[.slice none 0 0, .slice none 0 0], .agg #[.int .i64 k, .int .i64 x], .int .i64 0]) ∧ Below w.heap.size w w'
/-- What Same answers. -/
def SmY (P B B' : List Int) : Prop := ∀ (a : Option Addr) (c : Nat) (a2 : Option Addr) (c2 : Nat) (a' : Option Addr) (c' : Nat) (a2' : Option Addr) (c2' : Nat) (w : World), SpIn w a c a2 c2 P B → SpIn w a' c' a2' c2' P B' → Calls Try.prog 24 #[.agg #[.slice a P.length c, .slice a2 B.length c2], .agg #[.slice a' P.length c', .slice a2' B'.length c2']] w fun e w' => e = .returned (.bool true) ∧ Below w.heap.size w w'
/-- What Check answers. -/
def CkG (P B : List Int) (er : Int) : Prop := ∀ (a : Option Addr) (c : Nat) (a2 : Option Addr) (c2 : Nat) (w : World), SpIn w a c a2 c2 P B → Calls Try.prog 21 #[.agg #[.slice a P.length c, .slice a2 B.length c2]] w fun e w' => e = .returned (.int .i64 er) ∧ Below w.heap.size w w'
def RcG (s : Int) (g : Bool) (er : Int) : Prop := ∀ w : World, Calls Try.prog 45 #[.agg #[.int .i64 s, .bool g]] w fun e w' => e = .returned (.int .i64 er) ∧ Below w.heap.size w w'
def ApG (t s : Int) (g : Bool) (v u r : Int) (h : Bool) (z : Int) (b : Bool) : Prop := ∀ w : World, Calls Try.prog 44 #[.agg #[.int .i64 t, .int .i64 s, .bool g, .int .i64 v], .agg #[.int .i64 u, .int .i64 r, .bool h, .int .i64 z]] w fun e w' => e = .returned (.bool b) ∧ Below w.heap.size w w'
set_option maxHeartbeats 4000000 in
set_option maxRecDepth 100000 in
theorem ma_1 (a : Option Addr) (c : Nat) (a2 : Option Addr) (c2 : Nat) (P B : List Int) (tx sx vx ty sy vy : Int) (gx gy : Bool) (w : World) (hS : SpIn w a c a2 c2 P B) (hck : CkG P B 30) :
    Calls Try.prog 8 #[.agg #[.slice a P.length c, .slice a2 B.length c2], .agg #[.int .i64 tx, .int .i64 sx, .bool gx, .int .i64 vx], .agg #[.int .i64 ty, .int .i64 sy, .bool gy, .int .i64 vy]] w fun e w' => e = .returned (.bool true) ∧ Below w.heap.size w w' := by
  have hS0 := Lib.hid hS
  clear hS
  go_enter Try.func8, Try.ntmps8
  have HK := Kw.start w
  go_wp2_with fail
  replace HK := HK.box (vs := [.slice a P.length c, .slice a2 B.length c2]) (t := 25)
  replace HK := HK.box (vs := [.int .i64 tx, .int .i64 sx, .bool gx, .int .i64 vx]) (t := 66)
  replace HK := HK.box (vs := [.int .i64 ty, .int .i64 sy, .bool gy, .int .i64 vy]) (t := 66)
  simp only [World.size_alloc] at HK
  refine (sane_c _).mono ?_
  rintro e w1 ⟨rfl, hq⟩
  replace HK := HK.below hq
  clear hq
  have z1 := HK.lt 0 rfl
  have y_0 := HK.get 0 0 rfl rfl
  have y_1 := HK.get 0 1 rfl rfl
  have y_2 := HK.get 0 2 rfl rfl
  have y_3 := HK.get 0 3 rfl rfl
  have y_s := HK.lt 0 rfl
  have x_0 := HK.get 1 0 rfl rfl
  have x_1 := HK.get 1 1 rfl rfl
  have x_2 := HK.get 1 2 rfl rfl
  have x_3 := HK.get 1 3 rfl rfl
  have x_s := HK.lt 1 rfl
  have p_0 := HK.get 2 0 rfl rfl
  have p_1 := HK.get 2 1 rfl rfl
  have p_s := HK.lt 2 rfl
  go_wp2_with fail
  clear y_0 y_1 y_2 y_3 y_s x_0 x_1 x_2 x_3 x_s p_0 p_1 p_s
  refine (hck _ _ _ _ _ (hS0.out.below HK.base)).mono ?_
  rintro e w2 ⟨rfl, hq⟩
  replace HK := HK.below hq
  clear hq
  have z2 := HK.lt 0 rfl
  have y_0 := HK.get 0 0 rfl rfl
  have y_1 := HK.get 0 1 rfl rfl
  have y_2 := HK.get 0 2 rfl rfl
  have y_3 := HK.get 0 3 rfl rfl
  have y_s := HK.lt 0 rfl
  have x_0 := HK.get 1 0 rfl rfl
  have x_1 := HK.get 1 1 rfl rfl
  have x_2 := HK.get 1 2 rfl rfl
  have x_3 := HK.get 1 3 rfl rfl
  have x_s := HK.lt 1 rfl
  have p_0 := HK.get 2 0 rfl rfl
  have p_1 := HK.get 2 1 rfl rfl
  have p_s := HK.lt 2 rfl
  have hK := HK.base
  clear HK
  go_wp2
  go_ret
  exact ⟨rfl, hK⟩
set_option maxHeartbeats 4000000 in
set_option maxRecDepth 100000 in
theorem ma_2 (a : Option Addr) (c : Nat) (a2 : Option Addr) (c2 : Nat) (P B : List Int) (tx sx vx ty sy vy : Int) (gx gy : Bool) (w : World) (hS : SpIn w a c a2 c2 P B) (hck : CkG P B 0) (hr1 : RcG sx gx 10) :
    Calls Try.prog 8 #[.agg #[.slice a P.length c, .slice a2 B.length c2], .agg #[.int .i64 tx, .int .i64 sx, .bool gx, .int .i64 vx], .agg #[.int .i64 ty, .int .i64 sy, .bool gy, .int .i64 vy]] w fun e w' => e = .returned (.bool true) ∧ Below w.heap.size w w' := by
  have hS0 := Lib.hid hS
  clear hS
  go_enter Try.func8, Try.ntmps8
  have HK := Kw.start w
  go_wp2_with fail
  replace HK := HK.box (vs := [.slice a P.length c, .slice a2 B.length c2]) (t := 25)
  replace HK := HK.box (vs := [.int .i64 tx, .int .i64 sx, .bool gx, .int .i64 vx]) (t := 66)
  replace HK := HK.box (vs := [.int .i64 ty, .int .i64 sy, .bool gy, .int .i64 vy]) (t := 66)
  simp only [World.size_alloc] at HK
  refine (sane_c _).mono ?_
  rintro e w1 ⟨rfl, hq⟩
  replace HK := HK.below hq
  clear hq
  have z1 := HK.lt 0 rfl
  have y_0 := HK.get 0 0 rfl rfl
  have y_1 := HK.get 0 1 rfl rfl
  have y_2 := HK.get 0 2 rfl rfl
  have y_3 := HK.get 0 3 rfl rfl
  have y_s := HK.lt 0 rfl
  have x_0 := HK.get 1 0 rfl rfl
  have x_1 := HK.get 1 1 rfl rfl
  have x_2 := HK.get 1 2 rfl rfl
  have x_3 := HK.get 1 3 rfl rfl
  have x_s := HK.lt 1 rfl
  have p_0 := HK.get 2 0 rfl rfl
  have p_1 := HK.get 2 1 rfl rfl
  have p_s := HK.lt 2 rfl
  go_wp2_with fail
  clear y_0 y_1 y_2 y_3 y_s x_0 x_1 x_2 x_3 x_s p_0 p_1 p_s
  refine (hck _ _ _ _ _ (hS0.out.below HK.base)).mono ?_
  rintro e w2 ⟨rfl, hq⟩
  replace HK := HK.below hq
  clear hq
  have z2 := HK.lt 0 rfl
  have y_0 := HK.get 0 0 rfl rfl
  have y_1 := HK.get 0 1 rfl rfl
  have y_2 := HK.get 0 2 rfl rfl
  have y_3 := HK.get 0 3 rfl rfl
  have y_s := HK.lt 0 rfl
  have x_0 := HK.get 1 0 rfl rfl
  have x_1 := HK.get 1 1 rfl rfl
  have x_2 := HK.get 1 2 rfl rfl
  have x_3 := HK.get 1 3 rfl rfl
  have x_s := HK.lt 1 rfl
  have p_0 := HK.get 2 0 rfl rfl
  have p_1 := HK.get 2 1 rfl rfl
  have p_s := HK.lt 2 rfl
  go_wp2_with fail
  clear y_0 y_1 y_2 y_3 y_s x_0 x_1 x_2 x_3 x_s p_0 p_1 p_s
  refine (hr1 _).mono ?_
  rintro e w3 ⟨rfl, hq⟩
  replace HK := HK.below hq
  clear hq
  have z3 := HK.lt 0 rfl
  have y_0 := HK.get 0 0 rfl rfl
  have y_1 := HK.get 0 1 rfl rfl
  have y_2 := HK.get 0 2 rfl rfl
  have y_3 := HK.get 0 3 rfl rfl
  have y_s := HK.lt 0 rfl
  have x_0 := HK.get 1 0 rfl rfl
  have x_1 := HK.get 1 1 rfl rfl
  have x_2 := HK.get 1 2 rfl rfl
  have x_3 := HK.get 1 3 rfl rfl
  have x_s := HK.lt 1 rfl
  have p_0 := HK.get 2 0 rfl rfl
  have p_1 := HK.get 2 1 rfl rfl
  have p_s := HK.lt 2 rfl
  have hK := HK.base
  clear HK
  go_wp2
  go_ret
  exact ⟨rfl, hK⟩
set_option maxHeartbeats 4000000 in
set_option maxRecDepth 100000 in
theorem ma_3 (a : Option Addr) (c : Nat) (a2 : Option Addr) (c2 : Nat) (P B : List Int) (tx sx vx ty sy vy : Int) (gx gy : Bool) (w : World) (hS : SpIn w a c a2 c2 P B) (hck : CkG P B 0) (hr1 : RcG sx gx 0) (hr2 : RcG sy gy 10) :
    Calls Try.prog 8 #[.agg #[.slice a P.length c, .slice a2 B.length c2], .agg #[.int .i64 tx, .int .i64 sx, .bool gx, .int .i64 vx], .agg #[.int .i64 ty, .int .i64 sy, .bool gy, .int .i64 vy]] w fun e w' => e = .returned (.bool true) ∧ Below w.heap.size w w' := by
  have hS0 := Lib.hid hS
  clear hS
  go_enter Try.func8, Try.ntmps8
  have HK := Kw.start w
  go_wp2_with fail
  replace HK := HK.box (vs := [.slice a P.length c, .slice a2 B.length c2]) (t := 25)
  replace HK := HK.box (vs := [.int .i64 tx, .int .i64 sx, .bool gx, .int .i64 vx]) (t := 66)
  replace HK := HK.box (vs := [.int .i64 ty, .int .i64 sy, .bool gy, .int .i64 vy]) (t := 66)
  simp only [World.size_alloc] at HK
  refine (sane_c _).mono ?_
  rintro e w1 ⟨rfl, hq⟩
  replace HK := HK.below hq
  clear hq
  have z1 := HK.lt 0 rfl
  have y_0 := HK.get 0 0 rfl rfl
  have y_1 := HK.get 0 1 rfl rfl
  have y_2 := HK.get 0 2 rfl rfl
  have y_3 := HK.get 0 3 rfl rfl
  have y_s := HK.lt 0 rfl
  have x_0 := HK.get 1 0 rfl rfl
  have x_1 := HK.get 1 1 rfl rfl
  have x_2 := HK.get 1 2 rfl rfl
  have x_3 := HK.get 1 3 rfl rfl
  have x_s := HK.lt 1 rfl
  have p_0 := HK.get 2 0 rfl rfl
  have p_1 := HK.get 2 1 rfl rfl
  have p_s := HK.lt 2 rfl
  go_wp2_with fail
  clear y_0 y_1 y_2 y_3 y_s x_0 x_1 x_2 x_3 x_s p_0 p_1 p_s
  refine (hck _ _ _ _ _ (hS0.out.below HK.base)).mono ?_
  rintro e w2 ⟨rfl, hq⟩
  replace HK := HK.below hq
  clear hq
  have z2 := HK.lt 0 rfl
  have y_0 := HK.get 0 0 rfl rfl
  have y_1 := HK.get 0 1 rfl rfl
  have y_2 := HK.get 0 2 rfl rfl
  have y_3 := HK.get 0 3 rfl rfl
  have y_s := HK.lt 0 rfl
  have x_0 := HK.get 1 0 rfl rfl
  have x_1 := HK.get 1 1 rfl rfl
  have x_2 := HK.get 1 2 rfl rfl
  have x_3 := HK.get 1 3 rfl rfl
  have x_s := HK.lt 1 rfl
  have p_0 := HK.get 2 0 rfl rfl
  have p_1 := HK.get 2 1 rfl rfl
  have p_s := HK.lt 2 rfl
  go_wp2_with fail
  clear y_0 y_1 y_2 y_3 y_s x_0 x_1 x_2 x_3 x_s p_0 p_1 p_s
  refine (hr1 _).mono ?_
  rintro e w3 ⟨rfl, hq⟩
  replace HK := HK.below hq
  clear hq
  have z3 := HK.lt 0 rfl
  have y_0 := HK.get 0 0 rfl rfl
  have y_1 := HK.get 0 1 rfl rfl
  have y_2 := HK.get 0 2 rfl rfl
  have y_3 := HK.get 0 3 rfl rfl
  have y_s := HK.lt 0 rfl
  have x_0 := HK.get 1 0 rfl rfl
  have x_1 := HK.get 1 1 rfl rfl
  have x_2 := HK.get 1 2 rfl rfl
  have x_3 := HK.get 1 3 rfl rfl
  have x_s := HK.lt 1 rfl
  have p_0 := HK.get 2 0 rfl rfl
  have p_1 := HK.get 2 1 rfl rfl
  have p_s := HK.lt 2 rfl
  go_wp2_with fail
  clear y_0 y_1 y_2 y_3 y_s x_0 x_1 x_2 x_3 x_s p_0 p_1 p_s
  refine (hr2 _).mono ?_
  rintro e w4 ⟨rfl, hq⟩
  replace HK := HK.below hq
  clear hq
  have z4 := HK.lt 0 rfl
  have y_0 := HK.get 0 0 rfl rfl
  have y_1 := HK.get 0 1 rfl rfl
  have y_2 := HK.get 0 2 rfl rfl
  have y_3 := HK.get 0 3 rfl rfl
  have y_s := HK.lt 0 rfl
  have x_0 := HK.get 1 0 rfl rfl
  have x_1 := HK.get 1 1 rfl rfl
  have x_2 := HK.get 1 2 rfl rfl
  have x_3 := HK.get 1 3 rfl rfl
  have x_s := HK.lt 1 rfl
  have p_0 := HK.get 2 0 rfl rfl
  have p_1 := HK.get 2 1 rfl rfl
  have p_s := HK.lt 2 rfl
  have hK := HK.base
  clear HK
  go_wp2
  go_ret
  exact ⟨rfl, hK⟩
set_option maxHeartbeats 4000000 in
set_option maxRecDepth 100000 in
theorem ma_4 (a : Option Addr) (c : Nat) (a2 : Option Addr) (c2 : Nat) (P B : List Int) (tx sx vx ty sy vy : Int) (gx gy : Bool) (w : World) (hS : SpIn w a c a2 c2 P B) (hck : CkG P B 0) (hr1 : RcG sx gx 0) (hr2 : RcG sy gy 0) (hap : ApG tx sx gx vx ty sy gy vy false) :
    Calls Try.prog 8 #[.agg #[.slice a P.length c, .slice a2 B.length c2], .agg #[.int .i64 tx, .int .i64 sx, .bool gx, .int .i64 vx], .agg #[.int .i64 ty, .int .i64 sy, .bool gy, .int .i64 vy]] w fun e w' => e = .returned (.bool true) ∧ Below w.heap.size w w' := by
  have hS0 := Lib.hid hS
  clear hS
  go_enter Try.func8, Try.ntmps8
  have HK := Kw.start w
  go_wp2_with fail
  replace HK := HK.box (vs := [.slice a P.length c, .slice a2 B.length c2]) (t := 25)
  replace HK := HK.box (vs := [.int .i64 tx, .int .i64 sx, .bool gx, .int .i64 vx]) (t := 66)
  replace HK := HK.box (vs := [.int .i64 ty, .int .i64 sy, .bool gy, .int .i64 vy]) (t := 66)
  simp only [World.size_alloc] at HK
  refine (sane_c _).mono ?_
  rintro e w1 ⟨rfl, hq⟩
  replace HK := HK.below hq
  clear hq
  have z1 := HK.lt 0 rfl
  have y_0 := HK.get 0 0 rfl rfl
  have y_1 := HK.get 0 1 rfl rfl
  have y_2 := HK.get 0 2 rfl rfl
  have y_3 := HK.get 0 3 rfl rfl
  have y_s := HK.lt 0 rfl
  have x_0 := HK.get 1 0 rfl rfl
  have x_1 := HK.get 1 1 rfl rfl
  have x_2 := HK.get 1 2 rfl rfl
  have x_3 := HK.get 1 3 rfl rfl
  have x_s := HK.lt 1 rfl
  have p_0 := HK.get 2 0 rfl rfl
  have p_1 := HK.get 2 1 rfl rfl
  have p_s := HK.lt 2 rfl
  go_wp2_with fail
  clear y_0 y_1 y_2 y_3 y_s x_0 x_1 x_2 x_3 x_s p_0 p_1 p_s
  refine (hck _ _ _ _ _ (hS0.out.below HK.base)).mono ?_
  rintro e w2 ⟨rfl, hq⟩
  replace HK := HK.below hq
  clear hq
  have z2 := HK.lt 0 rfl
  have y_0 := HK.get 0 0 rfl rfl
  have y_1 := HK.get 0 1 rfl rfl
  have y_2 := HK.get 0 2 rfl rfl
  have y_3 := HK.get 0 3 rfl rfl
  have y_s := HK.lt 0 rfl
  have x_0 := HK.get 1 0 rfl rfl
  have x_1 := HK.get 1 1 rfl rfl
  have x_2 := HK.get 1 2 rfl rfl
  have x_3 := HK.get 1 3 rfl rfl
  have x_s := HK.lt 1 rfl
  have p_0 := HK.get 2 0 rfl rfl
  have p_1 := HK.get 2 1 rfl rfl
  have p_s := HK.lt 2 rfl
  go_wp2_with fail
  clear y_0 y_1 y_2 y_3 y_s x_0 x_1 x_2 x_3 x_s p_0 p_1 p_s
  refine (hr1 _).mono ?_
  rintro e w3 ⟨rfl, hq⟩
  replace HK := HK.below hq
  clear hq
  have z3 := HK.lt 0 rfl
  have y_0 := HK.get 0 0 rfl rfl
  have y_1 := HK.get 0 1 rfl rfl
  have y_2 := HK.get 0 2 rfl rfl
  have y_3 := HK.get 0 3 rfl rfl
  have y_s := HK.lt 0 rfl
  have x_0 := HK.get 1 0 rfl rfl
  have x_1 := HK.get 1 1 rfl rfl
  have x_2 := HK.get 1 2 rfl rfl
  have x_3 := HK.get 1 3 rfl rfl
  have x_s := HK.lt 1 rfl
  have p_0 := HK.get 2 0 rfl rfl
  have p_1 := HK.get 2 1 rfl rfl
  have p_s := HK.lt 2 rfl
  go_wp2_with fail
  clear y_0 y_1 y_2 y_3 y_s x_0 x_1 x_2 x_3 x_s p_0 p_1 p_s
  refine (hr2 _).mono ?_
  rintro e w4 ⟨rfl, hq⟩
  replace HK := HK.below hq
  clear hq
  have z4 := HK.lt 0 rfl
  have y_0 := HK.get 0 0 rfl rfl
  have y_1 := HK.get 0 1 rfl rfl
  have y_2 := HK.get 0 2 rfl rfl
  have y_3 := HK.get 0 3 rfl rfl
  have y_s := HK.lt 0 rfl
  have x_0 := HK.get 1 0 rfl rfl
  have x_1 := HK.get 1 1 rfl rfl
  have x_2 := HK.get 1 2 rfl rfl
  have x_3 := HK.get 1 3 rfl rfl
  have x_s := HK.lt 1 rfl
  have p_0 := HK.get 2 0 rfl rfl
  have p_1 := HK.get 2 1 rfl rfl
  have p_s := HK.lt 2 rfl
  go_wp2_with fail
  clear y_0 y_1 y_2 y_3 y_s x_0 x_1 x_2 x_3 x_s p_0 p_1 p_s
  refine (hap _).mono ?_
  rintro e w5 ⟨rfl, hq⟩
  replace HK := HK.below hq
  clear hq
  have z5 := HK.lt 0 rfl
  have y_0 := HK.get 0 0 rfl rfl
  have y_1 := HK.get 0 1 rfl rfl
  have y_2 := HK.get 0 2 rfl rfl
  have y_3 := HK.get 0 3 rfl rfl
  have y_s := HK.lt 0 rfl
  have x_0 := HK.get 1 0 rfl rfl
  have x_1 := HK.get 1 1 rfl rfl
  have x_2 := HK.get 1 2 rfl rfl
  have x_3 := HK.get 1 3 rfl rfl
  have x_s := HK.lt 1 rfl
  have p_0 := HK.get 2 0 rfl rfl
  have p_1 := HK.get 2 1 rfl rfl
  have p_s := HK.lt 2 rfl
  have hK := HK.base
  clear HK
  go_wp2
  go_ret
  exact ⟨rfl, hK⟩
set_option maxHeartbeats 4000000 in
set_option maxRecDepth 100000 in
theorem ma_yy (a : Option Addr) (c : Nat) (a2 : Option Addr) (c2 : Nat) (P B : List Int) (tx sx vx ty sy vy : Int) (gx gy : Bool) (w : World) (hS : SpIn w a c a2 c2 P B) (Bx By C : List Int) (hck : CkG P B 0) (hr1 : RcG sx gx 0) (hr2 : RcG sy gy 0) (hap : ApG tx sx gx vx ty sy gy vy true) (h1 : StY P B tx sx gx vx Bx) (h2 : StY P B ty sy gy vy By) (h3 : StY P Bx ty sy gy vy C) (h4 : StY P By tx sx gx vx C) (hsm : SmY P C C) :
    Calls Try.prog 8 #[.agg #[.slice a P.length c, .slice a2 B.length c2], .agg #[.int .i64 tx, .int .i64 sx, .bool gx, .int .i64 vx], .agg #[.int .i64 ty, .int .i64 sy, .bool gy, .int .i64 vy]] w fun e w' => e = .returned (.bool true) ∧ Below w.heap.size w w' := by
  have hS0 := Lib.hid hS
  clear hS
  go_enter Try.func8, Try.ntmps8
  have HK := Kw.start w
  go_wp2_with fail
  replace HK := HK.box (vs := [.slice a P.length c, .slice a2 B.length c2]) (t := 25)
  replace HK := HK.box (vs := [.int .i64 tx, .int .i64 sx, .bool gx, .int .i64 vx]) (t := 66)
  replace HK := HK.box (vs := [.int .i64 ty, .int .i64 sy, .bool gy, .int .i64 vy]) (t := 66)
  simp only [World.size_alloc] at HK
  refine (sane_c _).mono ?_
  rintro e w1 ⟨rfl, hq⟩
  replace HK := HK.below hq
  clear hq
  have z1 := HK.lt 0 rfl
  have y_0 := HK.get 0 0 rfl rfl
  have y_1 := HK.get 0 1 rfl rfl
  have y_2 := HK.get 0 2 rfl rfl
  have y_3 := HK.get 0 3 rfl rfl
  have y_s := HK.lt 0 rfl
  have x_0 := HK.get 1 0 rfl rfl
  have x_1 := HK.get 1 1 rfl rfl
  have x_2 := HK.get 1 2 rfl rfl
  have x_3 := HK.get 1 3 rfl rfl
  have x_s := HK.lt 1 rfl
  have p_0 := HK.get 2 0 rfl rfl
  have p_1 := HK.get 2 1 rfl rfl
  have p_s := HK.lt 2 rfl
  go_wp2_with fail
  clear y_0 y_1 y_2 y_3 y_s x_0 x_1 x_2 x_3 x_s p_0 p_1 p_s
  refine (hck _ _ _ _ _ (hS0.out.below HK.base)).mono ?_
  rintro e w2 ⟨rfl, hq⟩
  replace HK := HK.below hq
  clear hq
  have z2 := HK.lt 0 rfl
  have y_0 := HK.get 0 0 rfl rfl
  have y_1 := HK.get 0 1 rfl rfl
  have y_2 := HK.get 0 2 rfl rfl
  have y_3 := HK.get 0 3 rfl rfl
  have y_s := HK.lt 0 rfl
  have x_0 := HK.get 1 0 rfl rfl
  have x_1 := HK.get 1 1 rfl rfl
  have x_2 := HK.get 1 2 rfl rfl
  have x_3 := HK.get 1 3 rfl rfl
  have x_s := HK.lt 1 rfl
  have p_0 := HK.get 2 0 rfl rfl
  have p_1 := HK.get 2 1 rfl rfl
  have p_s := HK.lt 2 rfl
  go_wp2_with fail
  clear y_0 y_1 y_2 y_3 y_s x_0 x_1 x_2 x_3 x_s p_0 p_1 p_s
  refine (hr1 _).mono ?_
  rintro e w3 ⟨rfl, hq⟩
  replace HK := HK.below hq
  clear hq
  have z3 := HK.lt 0 rfl
  have y_0 := HK.get 0 0 rfl rfl
  have y_1 := HK.get 0 1 rfl rfl
  have y_2 := HK.get 0 2 rfl rfl
  have y_3 := HK.get 0 3 rfl rfl
  have y_s := HK.lt 0 rfl
  have x_0 := HK.get 1 0 rfl rfl
  have x_1 := HK.get 1 1 rfl rfl
  have x_2 := HK.get 1 2 rfl rfl
  have x_3 := HK.get 1 3 rfl rfl
  have x_s := HK.lt 1 rfl
  have p_0 := HK.get 2 0 rfl rfl
  have p_1 := HK.get 2 1 rfl rfl
  have p_s := HK.lt 2 rfl
  go_wp2_with fail
  clear y_0 y_1 y_2 y_3 y_s x_0 x_1 x_2 x_3 x_s p_0 p_1 p_s
  refine (hr2 _).mono ?_
  rintro e w4 ⟨rfl, hq⟩
  replace HK := HK.below hq
  clear hq
  have z4 := HK.lt 0 rfl
  have y_0 := HK.get 0 0 rfl rfl
  have y_1 := HK.get 0 1 rfl rfl
  have y_2 := HK.get 0 2 rfl rfl
  have y_3 := HK.get 0 3 rfl rfl
  have y_s := HK.lt 0 rfl
  have x_0 := HK.get 1 0 rfl rfl
  have x_1 := HK.get 1 1 rfl rfl
  have x_2 := HK.get 1 2 rfl rfl
  have x_3 := HK.get 1 3 rfl rfl
  have x_s := HK.lt 1 rfl
  have p_0 := HK.get 2 0 rfl rfl
  have p_1 := HK.get 2 1 rfl rfl
  have p_s := HK.lt 2 rfl
  go_wp2_with fail
  clear y_0 y_1 y_2 y_3 y_s x_0 x_1 x_2 x_3 x_s p_0 p_1 p_s
  refine (hap _).mono ?_
  rintro e w5 ⟨rfl, hq⟩
  replace HK := HK.below hq
  clear hq
  have z5 := HK.lt 0 rfl
  have y_0 := HK.get 0 0 rfl rfl
  have y_1 := HK.get 0 1 rfl rfl
  have y_2 := HK.get 0 2 rfl rfl
  have y_3 := HK.get 0 3 rfl rfl
  have y_s := HK.lt 0 rfl
  have x_0 := HK.get 1 0 rfl rfl
  have x_1 := HK.get 1 1 rfl rfl
  have x_2 := HK.get 1 2 rfl rfl
  have x_3 := HK.get 1 3 rfl rfl
  have x_s := HK.lt 1 rfl
  have p_0 := HK.get 2 0 rfl rfl
  have p_1 := HK.get 2 1 rfl rfl
  have p_s := HK.lt 2 rfl
  go_wp2_with fail
  clear y_0 y_1 y_2 y_3 y_s x_0 x_1 x_2 x_3 x_s p_0 p_1 p_s
  refine (h1 _ _ _ _ _ (hS0.out.below HK.base)).mono ?_
  rintro e w6 ⟨a6, c6, b6, d6, rfl, ho6, hu6, hq⟩
  replace HK := HK.below hq
  clear hq
  have z6 := HK.lt 0 rfl
  have hX6 := spIn_own ho6 hu6
  have hB6 := Below.refl w6.heap.size w6
  have y_0 := HK.get 0 0 rfl rfl
  have y_1 := HK.get 0 1 rfl rfl
  have y_2 := HK.get 0 2 rfl rfl
  have y_3 := HK.get 0 3 rfl rfl
  have y_s := HK.lt 0 rfl
  have x_0 := HK.get 1 0 rfl rfl
  have x_1 := HK.get 1 1 rfl rfl
  have x_2 := HK.get 1 2 rfl rfl
  have x_3 := HK.get 1 3 rfl rfl
  have x_s := HK.lt 1 rfl
  have p_0 := HK.get 2 0 rfl rfl
  have p_1 := HK.get 2 1 rfl rfl
  have p_s := HK.lt 2 rfl
  go_wp2_with fail
  replace HK := HK.box (vs := [.slice a6 P.length c6, .slice b6 Bx.length d6]) (t := 25)
  replace hB6 := b_alloc (o := (.cells #[.slice a6 P.length c6, .slice b6 Bx.length d6] 25)) hB6
  replace HK := HK.box (vs := [.int .i64 0, .int .i64 0]) (t := 34)
  replace hB6 := b_alloc (o := (.cells #[.int .i64 0, .int .i64 0] 34)) hB6
  simp only [World.size_alloc] at HK
  clear y_0 y_1 y_2 y_3 y_s x_0 x_1 x_2 x_3 x_s p_0 p_1 p_s
  refine (h2 _ _ _ _ _ (hS0.out.below HK.base)).mono ?_
  rintro e w7 ⟨a7, c7, b7, d7, rfl, ho7, hu7, hq⟩
  replace HK := HK.below hq
  replace hB6 := Below.tail hB6 hq
  clear hq
  have z7 := HK.lt 0 rfl
  have hX7 := spIn_own ho7 hu7
  have hB7 := Below.refl w7.heap.size w7
  have f_0 := HK.get 0 0 rfl rfl
  have f_1 := HK.get 0 1 rfl rfl
  have f_s := HK.lt 0 rfl
  have a_0 := HK.get 1 0 rfl rfl
  have a_f0 := HK.fz 1 0 rfl
  have a_1 := HK.get 1 1 rfl rfl
  have a_f1 := HK.fz 1 1 rfl
  have a_s := HK.lt 1 rfl
  have y_0 := HK.get 2 0 rfl rfl
  have y_1 := HK.get 2 1 rfl rfl
  have y_2 := HK.get 2 2 rfl rfl
  have y_3 := HK.get 2 3 rfl rfl
  have y_s := HK.lt 2 rfl
  have x_0 := HK.get 3 0 rfl rfl
  have x_1 := HK.get 3 1 rfl rfl
  have x_2 := HK.get 3 2 rfl rfl
  have x_3 := HK.get 3 3 rfl rfl
  have x_s := HK.lt 3 rfl
  have p_0 := HK.get 4 0 rfl rfl
  have p_1 := HK.get 4 1 rfl rfl
  have p_s := HK.lt 4 rfl
  go_wp2_with fail
  replace HK := HK.box (vs := [.slice a7 P.length c7, .slice b7 By.length d7]) (t := 25)
  replace hB6 := b_alloc (o := (.cells #[.slice a7 P.length c7, .slice b7 By.length d7] 25)) hB6
  replace hB7 := b_alloc (o := (.cells #[.slice a7 P.length c7, .slice b7 By.length d7] 25)) hB7
  replace HK := HK.box (vs := [.int .i64 0, .int .i64 0]) (t := 34)
  replace hB6 := b_alloc (o := (.cells #[.int .i64 0, .int .i64 0] 34)) hB6
  replace hB7 := b_alloc (o := (.cells #[.int .i64 0, .int .i64 0] 34)) hB7
  simp only [World.size_alloc] at HK
  clear f_0 f_1 f_s a_0 a_f0 a_1 a_f1 a_s y_0 y_1 y_2 y_3 y_s x_0 x_1 x_2 x_3 x_s p_0 p_1 p_s
  refine (h3 _ _ _ _ _ (hX6.below hB6)).mono ?_
  rintro e w8 ⟨a8, c8, b8, d8, rfl, ho8, hu8, hq⟩
  replace HK := HK.below hq
  replace hB6 := Below.tail hB6 hq
  replace hB7 := Below.tail hB7 hq
  clear hq
  have z8 := HK.lt 0 rfl
  have hX8 := spIn_own ho8 hu8
  have hB8 := Below.refl w8.heap.size w8
  have b_0 := HK.get 1 0 rfl rfl
  have b_1 := HK.get 1 1 rfl rfl
  have b_s := HK.lt 1 rfl
  have b_t := Nat.lt_succ_of_lt b_s
  have x_0 := HK.get 5 0 rfl rfl
  have x_1 := HK.get 5 1 rfl rfl
  have x_2 := HK.get 5 2 rfl rfl
  have x_3 := HK.get 5 3 rfl rfl
  have x_s := HK.lt 5 rfl
  have x_t := Nat.lt_succ_of_lt x_s
  go_wp2_with fail
  replace HK := HK.box (vs := [.slice a8 P.length c8, .slice b8 C.length d8]) (t := 25)
  replace hB6 := b_alloc (o := (.cells #[.slice a8 P.length c8, .slice b8 C.length d8] 25)) hB6
  replace hB7 := b_alloc (o := (.cells #[.slice a8 P.length c8, .slice b8 C.length d8] 25)) hB7
  replace hB8 := b_alloc (o := (.cells #[.slice a8 P.length c8, .slice b8 C.length d8] 25)) hB8
  replace HK := HK.box (vs := [.int .i64 0, .int .i64 0]) (t := 34)
  replace hB6 := b_alloc (o := (.cells #[.int .i64 0, .int .i64 0] 34)) hB6
  replace hB7 := b_alloc (o := (.cells #[.int .i64 0, .int .i64 0] 34)) hB7
  replace hB8 := b_alloc (o := (.cells #[.int .i64 0, .int .i64 0] 34)) hB8
  simp only [World.size_alloc] at HK
  clear b_0 b_1 b_s b_t x_0 x_1 x_2 x_3 x_s x_t
  refine (h4 _ _ _ _ _ (hX7.below hB7)).mono ?_
  rintro e w9 ⟨a9, c9, b9, d9, rfl, ho9, hu9, hq⟩
  replace HK := HK.below hq
  replace hB6 := Below.tail hB6 hq
  replace hB7 := Below.tail hB7 hq
  replace hB8 := Below.tail hB8 hq
  clear hq
  have z9 := HK.lt 0 rfl
  have hX9 := spIn_own ho9 hu9
  have hB9 := Below.refl w9.heap.size w9
  have h_0 := HK.get 0 0 rfl rfl
  have h_1 := HK.get 0 1 rfl rfl
  have h_s := HK.lt 0 rfl
  have h_t := Nat.lt_succ_of_lt h_s
  have c_0 := HK.get 1 0 rfl rfl
  have c_f0 := HK.fz 1 0 rfl
  have c_1 := HK.get 1 1 rfl rfl
  have c_f1 := HK.fz 1 1 rfl
  have c_s := HK.lt 1 rfl
  have c_t := Nat.lt_succ_of_lt c_s
  have g_0 := HK.get 2 0 rfl rfl
  have g_1 := HK.get 2 1 rfl rfl
  have g_s := HK.lt 2 rfl
  have g_t := Nat.lt_succ_of_lt g_s
  have b_0 := HK.get 3 0 rfl rfl
  have b_1 := HK.get 3 1 rfl rfl
  have b_s := HK.lt 3 rfl
  have b_t := Nat.lt_succ_of_lt b_s
  have f_0 := HK.get 4 0 rfl rfl
  have f_1 := HK.get 4 1 rfl rfl
  have f_s := HK.lt 4 rfl
  have f_t := Nat.lt_succ_of_lt f_s
  have a_0 := HK.get 5 0 rfl rfl
  have a_f0 := HK.fz 5 0 rfl
  have a_1 := HK.get 5 1 rfl rfl
  have a_f1 := HK.fz 5 1 rfl
  have a_s := HK.lt 5 rfl
  have a_t := Nat.lt_succ_of_lt a_s
  go_wp2_with fail
  replace HK := HK.box (vs := [.slice a9 P.length c9, .slice b9 C.length d9]) (t := 25)
  replace hB6 := b_alloc (o := (.cells #[.slice a9 P.length c9, .slice b9 C.length d9] 25)) hB6
  replace hB7 := b_alloc (o := (.cells #[.slice a9 P.length c9, .slice b9 C.length d9] 25)) hB7
  replace hB8 := b_alloc (o := (.cells #[.slice a9 P.length c9, .slice b9 C.length d9] 25)) hB8
  replace hB9 := b_alloc (o := (.cells #[.slice a9 P.length c9, .slice b9 C.length d9] 25)) hB9
  replace HK := HK.box (vs := [.int .i64 0, .int .i64 0]) (t := 34)
  replace hB6 := b_alloc (o := (.cells #[.int .i64 0, .int .i64 0] 34)) hB6
  replace hB7 := b_alloc (o := (.cells #[.int .i64 0, .int .i64 0] 34)) hB7
  replace hB8 := b_alloc (o := (.cells #[.int .i64 0, .int .i64 0] 34)) hB8
  replace hB9 := b_alloc (o := (.cells #[.int .i64 0, .int .i64 0] 34)) hB9
  simp only [World.size_alloc] at HK
  clear h_0 h_1 h_s h_t c_0 c_f0 c_1 c_f1 c_s c_t g_0 g_1 g_s g_t b_0 b_1 b_s b_t f_0 f_1 f_s f_t a_0 a_f0 a_1 a_f1 a_s a_t
  refine (hsm _ _ _ _ _ _ _ _ _ (hX8.below hB8) (hX9.below hB9)).mono ?_
  rintro e w10 ⟨rfl, hq⟩
  replace HK := HK.below hq
  replace hB6 := Below.tail hB6 hq
  replace hB7 := Below.tail hB7 hq
  replace hB8 := Below.tail hB8 hq
  replace hB9 := Below.tail hB9 hq
  clear hq
  have z10 := HK.lt 0 rfl
  have hK := HK.base
  clear HK
  go_wp2
  go_ret
  exact ⟨rfl, hK⟩
set_option maxHeartbeats 4000000 in
set_option maxRecDepth 100000 in
theorem ma_yn (a : Option Addr) (c : Nat) (a2 : Option Addr) (c2 : Nat) (P B : List Int) (tx sx vx ty sy vy : Int) (gx gy : Bool) (w : World) (hS : SpIn w a c a2 c2 P B) (Bx : List Int) (ky xy : Int) (hck : CkG P B 0) (hr1 : RcG sx gx 0) (hr2 : RcG sy gy 0) (hap : ApG tx sx gx vx ty sy gy vy true) (h1 : StY P B tx sx gx vx Bx) (h2 : StF P B ty sy gy vy ky xy) (hky : (ky != 0) = true) (h3 : StF P Bx ty sy gy vy ky xy) (h4 : StY P B tx sx gx vx Bx) (hsm : SmY P Bx Bx) :
    Calls Try.prog 8 #[.agg #[.slice a P.length c, .slice a2 B.length c2], .agg #[.int .i64 tx, .int .i64 sx, .bool gx, .int .i64 vx], .agg #[.int .i64 ty, .int .i64 sy, .bool gy, .int .i64 vy]] w fun e w' => e = .returned (.bool true) ∧ Below w.heap.size w w' := by
  have hS0 := Lib.hid hS
  clear hS
  go_enter Try.func8, Try.ntmps8
  have HK := Kw.start w
  go_wp2_with fail
  replace HK := HK.box (vs := [.slice a P.length c, .slice a2 B.length c2]) (t := 25)
  replace HK := HK.box (vs := [.int .i64 tx, .int .i64 sx, .bool gx, .int .i64 vx]) (t := 66)
  replace HK := HK.box (vs := [.int .i64 ty, .int .i64 sy, .bool gy, .int .i64 vy]) (t := 66)
  simp only [World.size_alloc] at HK
  refine (sane_c _).mono ?_
  rintro e w1 ⟨rfl, hq⟩
  replace HK := HK.below hq
  clear hq
  have z1 := HK.lt 0 rfl
  have y_0 := HK.get 0 0 rfl rfl
  have y_1 := HK.get 0 1 rfl rfl
  have y_2 := HK.get 0 2 rfl rfl
  have y_3 := HK.get 0 3 rfl rfl
  have y_s := HK.lt 0 rfl
  have x_0 := HK.get 1 0 rfl rfl
  have x_1 := HK.get 1 1 rfl rfl
  have x_2 := HK.get 1 2 rfl rfl
  have x_3 := HK.get 1 3 rfl rfl
  have x_s := HK.lt 1 rfl
  have p_0 := HK.get 2 0 rfl rfl
  have p_1 := HK.get 2 1 rfl rfl
  have p_s := HK.lt 2 rfl
  go_wp2_with fail
  clear y_0 y_1 y_2 y_3 y_s x_0 x_1 x_2 x_3 x_s p_0 p_1 p_s
  refine (hck _ _ _ _ _ (hS0.out.below HK.base)).mono ?_
  rintro e w2 ⟨rfl, hq⟩
  replace HK := HK.below hq
  clear hq
  have z2 := HK.lt 0 rfl
  have y_0 := HK.get 0 0 rfl rfl
  have y_1 := HK.get 0 1 rfl rfl
  have y_2 := HK.get 0 2 rfl rfl
  have y_3 := HK.get 0 3 rfl rfl
  have y_s := HK.lt 0 rfl
  have x_0 := HK.get 1 0 rfl rfl
  have x_1 := HK.get 1 1 rfl rfl
  have x_2 := HK.get 1 2 rfl rfl
  have x_3 := HK.get 1 3 rfl rfl
  have x_s := HK.lt 1 rfl
  have p_0 := HK.get 2 0 rfl rfl
  have p_1 := HK.get 2 1 rfl rfl
  have p_s := HK.lt 2 rfl
  go_wp2_with fail
  clear y_0 y_1 y_2 y_3 y_s x_0 x_1 x_2 x_3 x_s p_0 p_1 p_s
  refine (hr1 _).mono ?_
  rintro e w3 ⟨rfl, hq⟩
  replace HK := HK.below hq
  clear hq
  have z3 := HK.lt 0 rfl
  have y_0 := HK.get 0 0 rfl rfl
  have y_1 := HK.get 0 1 rfl rfl
  have y_2 := HK.get 0 2 rfl rfl
  have y_3 := HK.get 0 3 rfl rfl
  have y_s := HK.lt 0 rfl
  have x_0 := HK.get 1 0 rfl rfl
  have x_1 := HK.get 1 1 rfl rfl
  have x_2 := HK.get 1 2 rfl rfl
  have x_3 := HK.get 1 3 rfl rfl
  have x_s := HK.lt 1 rfl
  have p_0 := HK.get 2 0 rfl rfl
  have p_1 := HK.get 2 1 rfl rfl
  have p_s := HK.lt 2 rfl
  go_wp2_with fail
  clear y_0 y_1 y_2 y_3 y_s x_0 x_1 x_2 x_3 x_s p_0 p_1 p_s
  refine (hr2 _).mono ?_
  rintro e w4 ⟨rfl, hq⟩
  replace HK := HK.below hq
  clear hq
  have z4 := HK.lt 0 rfl
  have y_0 := HK.get 0 0 rfl rfl
  have y_1 := HK.get 0 1 rfl rfl
  have y_2 := HK.get 0 2 rfl rfl
  have y_3 := HK.get 0 3 rfl rfl
  have y_s := HK.lt 0 rfl
  have x_0 := HK.get 1 0 rfl rfl
  have x_1 := HK.get 1 1 rfl rfl
  have x_2 := HK.get 1 2 rfl rfl
  have x_3 := HK.get 1 3 rfl rfl
  have x_s := HK.lt 1 rfl
  have p_0 := HK.get 2 0 rfl rfl
  have p_1 := HK.get 2 1 rfl rfl
  have p_s := HK.lt 2 rfl
  go_wp2_with fail
  clear y_0 y_1 y_2 y_3 y_s x_0 x_1 x_2 x_3 x_s p_0 p_1 p_s
  refine (hap _).mono ?_
  rintro e w5 ⟨rfl, hq⟩
  replace HK := HK.below hq
  clear hq
  have z5 := HK.lt 0 rfl
  have y_0 := HK.get 0 0 rfl rfl
  have y_1 := HK.get 0 1 rfl rfl
  have y_2 := HK.get 0 2 rfl rfl
  have y_3 := HK.get 0 3 rfl rfl
  have y_s := HK.lt 0 rfl
  have x_0 := HK.get 1 0 rfl rfl
  have x_1 := HK.get 1 1 rfl rfl
  have x_2 := HK.get 1 2 rfl rfl
  have x_3 := HK.get 1 3 rfl rfl
  have x_s := HK.lt 1 rfl
  have p_0 := HK.get 2 0 rfl rfl
  have p_1 := HK.get 2 1 rfl rfl
  have p_s := HK.lt 2 rfl
  go_wp2_with fail
  clear y_0 y_1 y_2 y_3 y_s x_0 x_1 x_2 x_3 x_s p_0 p_1 p_s
  refine (h1 _ _ _ _ _ (hS0.out.below HK.base)).mono ?_
  rintro e w6 ⟨a6, c6, b6, d6, rfl, ho6, hu6, hq⟩
  replace HK := HK.below hq
  clear hq
  have z6 := HK.lt 0 rfl
  have hX6 := spIn_own ho6 hu6
  have hB6 := Below.refl w6.heap.size w6
  have y_0 := HK.get 0 0 rfl rfl
  have y_1 := HK.get 0 1 rfl rfl
  have y_2 := HK.get 0 2 rfl rfl
  have y_3 := HK.get 0 3 rfl rfl
  have y_s := HK.lt 0 rfl
  have x_0 := HK.get 1 0 rfl rfl
  have x_1 := HK.get 1 1 rfl rfl
  have x_2 := HK.get 1 2 rfl rfl
  have x_3 := HK.get 1 3 rfl rfl
  have x_s := HK.lt 1 rfl
  have p_0 := HK.get 2 0 rfl rfl
  have p_1 := HK.get 2 1 rfl rfl
  have p_s := HK.lt 2 rfl
  go_wp2_with fail
  replace HK := HK.box (vs := [.slice a6 P.length c6, .slice b6 Bx.length d6]) (t := 25)
  replace hB6 := b_alloc (o := (.cells #[.slice a6 P.length c6, .slice b6 Bx.length d6] 25)) hB6
  replace HK := HK.box (vs := [.int .i64 0, .int .i64 0]) (t := 34)
  replace hB6 := b_alloc (o := (.cells #[.int .i64 0, .int .i64 0] 34)) hB6
  simp only [World.size_alloc] at HK
  clear y_0 y_1 y_2 y_3 y_s x_0 x_1 x_2 x_3 x_s p_0 p_1 p_s
  refine (h2 _ _ _ _ _ (hS0.out.below HK.base)).mono ?_
  rintro e w7 ⟨rfl, hq⟩
  replace HK := HK.below hq
  replace hB6 := Below.tail hB6 hq
  clear hq
  have z7 := HK.lt 0 rfl
  have f_0 := HK.get 0 0 rfl rfl
  have f_1 := HK.get 0 1 rfl rfl
  have f_s := HK.lt 0 rfl
  have a_0 := HK.get 1 0 rfl rfl
  have a_f0 := HK.fz 1 0 rfl
  have a_1 := HK.get 1 1 rfl rfl
  have a_f1 := HK.fz 1 1 rfl
  have a_s := HK.lt 1 rfl
  have y_0 := HK.get 2 0 rfl rfl
  have y_1 := HK.get 2 1 rfl rfl
  have y_2 := HK.get 2 2 rfl rfl
  have y_3 := HK.get 2 3 rfl rfl
  have y_s := HK.lt 2 rfl
  have x_0 := HK.get 3 0 rfl rfl
  have x_1 := HK.get 3 1 rfl rfl
  have x_2 := HK.get 3 2 rfl rfl
  have x_3 := HK.get 3 3 rfl rfl
  have x_s := HK.lt 3 rfl
  have p_0 := HK.get 4 0 rfl rfl
  have p_1 := HK.get 4 1 rfl rfl
  have p_s := HK.lt 4 rfl
  go_wp2_with fail
  replace HK := HK.box (vs := [.slice a P.length c, .slice a2 B.length c2]) (t := 25)
  replace hB6 := b_alloc (o := (.cells #[.slice a P.length c, .slice a2 B.length c2] 25)) hB6
  replace HK := HK.box (vs := [.int .i64 ky, .int .i64 xy]) (t := 34)
  replace hB6 := b_alloc (o := (.cells #[.int .i64 ky, .int .i64 xy] 34)) hB6
  simp only [World.size_alloc] at HK
  clear f_0 f_1 f_s a_0 a_f0 a_1 a_f1 a_s y_0 y_1 y_2 y_3 y_s x_0 x_1 x_2 x_3 x_s p_0 p_1 p_s
  refine (h3 _ _ _ _ _ (hX6.below hB6)).mono ?_
  rintro e w8 ⟨rfl, hq⟩
  replace HK := HK.below hq
  replace hB6 := Below.tail hB6 hq
  clear hq
  have z8 := HK.lt 0 rfl
  have b_0 := HK.get 1 0 rfl rfl
  have b_1 := HK.get 1 1 rfl rfl
  have b_s := HK.lt 1 rfl
  have b_t := Nat.lt_succ_of_lt b_s
  have x_0 := HK.get 5 0 rfl rfl
  have x_1 := HK.get 5 1 rfl rfl
  have x_2 := HK.get 5 2 rfl rfl
  have x_3 := HK.get 5 3 rfl rfl
  have x_s := HK.lt 5 rfl
  have x_t := Nat.lt_succ_of_lt x_s
  go_wp2_with fail
  replace HK := HK.box (vs := [.slice none 0 0, .slice none 0 0]) (t := 25)
  replace hB6 := b_alloc (o := (.cells #[.slice none 0 0, .slice none 0 0] 25)) hB6
  replace HK := HK.box (vs := [.int .i64 ky, .int .i64 xy]) (t := 34)
  replace hB6 := b_alloc (o := (.cells #[.int .i64 ky, .int .i64 xy] 34)) hB6
  simp only [World.size_alloc] at HK
  clear b_0 b_1 b_s b_t x_0 x_1 x_2 x_3 x_s x_t
  refine (h4 _ _ _ _ _ (hS0.out.below HK.base)).mono ?_
  rintro e w9 ⟨a9, c9, b9, d9, rfl, ho9, hu9, hq⟩
  replace HK := HK.below hq
  replace hB6 := Below.tail hB6 hq
  clear hq
  have z9 := HK.lt 0 rfl
  have hX9 := spIn_own ho9 hu9
  have hB9 := Below.refl w9.heap.size w9
  have HK0 := HK.lt 0 rfl
  have h_0 := HK.get 0 0 rfl rfl
  have h_1 := HK.get 0 1 rfl rfl
  have h_s := HK.lt 0 rfl
  have h_t := Nat.lt_succ_of_lt h_s
  have c_0 := HK.get 1 0 rfl rfl
  have c_f0 := HK.fz 1 0 rfl
  have c_1 := HK.get 1 1 rfl rfl
  have c_f1 := HK.fz 1 1 rfl
  have c_s := HK.lt 1 rfl
  have c_t := Nat.lt_succ_of_lt c_s
  have g_0 := HK.get 2 0 rfl rfl
  have g_1 := HK.get 2 1 rfl rfl
  have g_s := HK.lt 2 rfl
  have g_t := Nat.lt_succ_of_lt g_s
  have b_0 := HK.get 3 0 rfl rfl
  have b_1 := HK.get 3 1 rfl rfl
  have b_s := HK.lt 3 rfl
  have b_t := Nat.lt_succ_of_lt b_s
  have f_0 := HK.get 4 0 rfl rfl
  have f_1 := HK.get 4 1 rfl rfl
  have f_s := HK.lt 4 rfl
  have f_t := Nat.lt_succ_of_lt f_s
  have a_0 := HK.get 5 0 rfl rfl
  have a_f0 := HK.fz 5 0 rfl
  have a_1 := HK.get 5 1 rfl rfl
  have a_f1 := HK.fz 5 1 rfl
  have a_s := HK.lt 5 rfl
  have a_t := Nat.lt_succ_of_lt a_s
  go_wp2_with fail
  replace HK := HK.put2l (l1 := [(w8.heap.size + 1, [.int .i64 ky, .int .i64 xy], 34)]) (l2 := [(w7.heap.size + 1, [.int .i64 ky, .int .i64 xy], 34), (w7.heap.size, [.slice a P.length c, .slice a2 B.length c2], 25), (w6.heap.size + 1, [.int .i64 0, .int .i64 0], 34), (w6.heap.size, [.slice a6 P.length c6, .slice b6 Bx.length d6], 25), (w.heap.size + 1 + 1, [.int .i64 ty, .int .i64 sy, .bool gy, .int .i64 vy], 66), (w.heap.size + 1, [.int .i64 tx, .int .i64 sx, .bool gx, .int .i64 vx], 66), (w.heap.size, [.slice a P.length c, .slice a2 B.length c2], 25)]) (x := .slice a6 P.length c6) (y := .slice b6 Bx.length d6) (by omega) (by
    intro f hf
    simp only [List.cons_append, List.nil_append, List.mem_cons, List.not_mem_nil, or_false] at hf
    rcases hf with rfl | rfl | rfl | rfl | rfl | rfl | rfl | rfl
    all_goals (dsimp only; omega))
  simp only [List.cons_append, List.nil_append] at HK
  replace hB6 := (hB6.setCell (p := ⟨w8.heap.size, 0, none⟩) (by show w6.heap.size ≤ w8.heap.size; omega) (.slice a6 P.length c6)).setCell (p := ⟨w8.heap.size, 1, none⟩) (by show w6.heap.size ≤ w8.heap.size; omega) (.slice b6 Bx.length d6)
  replace hX9 := spIn_own (ownsRow_setCell_below (a := ⟨w8.heap.size, 1, none⟩) (ownsRow_setCell_below (a := ⟨w8.heap.size, 0, none⟩) ho9 (by show w8.heap.size < _; have := HK0; simp only [World.size_alloc] at *; omega) (.slice a6 P.length c6)) (by show w8.heap.size < _; have := HK0; simp only [World.size_alloc] at *; omega) (.slice b6 Bx.length d6)) (ownsRow_setCell_below (a := ⟨w8.heap.size, 1, none⟩) (ownsRow_setCell_below (a := ⟨w8.heap.size, 0, none⟩) hu9 (by show w8.heap.size < _; have := HK0; simp only [World.size_alloc] at *; omega) (.slice a6 P.length c6)) (by show w8.heap.size < _; have := HK0; simp only [World.size_alloc] at *; omega) (.slice b6 Bx.length d6))
  replace hB9 := Below.refl ((w9.setCell ⟨w8.heap.size, 0, none⟩ (.slice a6 P.length c6)).setCell ⟨w8.heap.size, 1, none⟩ (.slice b6 Bx.length d6)).heap.size ((w9.setCell ⟨w8.heap.size, 0, none⟩ (.slice a6 P.length c6)).setCell ⟨w8.heap.size, 1, none⟩ (.slice b6 Bx.length d6))
  replace HK := HK.box (vs := [.slice a9 P.length c9, .slice b9 Bx.length d9]) (t := 25)
  replace hB6 := b_alloc (o := (.cells #[.slice a9 P.length c9, .slice b9 Bx.length d9] 25)) hB6
  replace hB9 := b_alloc (o := (.cells #[.slice a9 P.length c9, .slice b9 Bx.length d9] 25)) hB9
  replace HK := HK.box (vs := [.int .i64 0, .int .i64 0]) (t := 34)
  replace hB6 := b_alloc (o := (.cells #[.int .i64 0, .int .i64 0] 34)) hB6
  replace hB9 := b_alloc (o := (.cells #[.int .i64 0, .int .i64 0] 34)) hB9
  simp only [World.size_alloc, World.size_setCell] at HK
  clear h_0 h_1 h_s h_t c_0 c_f0 c_1 c_f1 c_s c_t g_0 g_1 g_s g_t b_0 b_1 b_s b_t f_0 f_1 f_s f_t a_0 a_f0 a_1 a_f1 a_s a_t
  refine (hsm _ _ _ _ _ _ _ _ _ (hX6.below hB6) (hX9.below hB9)).mono ?_
  rintro e w10 ⟨rfl, hq⟩
  replace HK := HK.below hq
  replace hB6 := Below.tail hB6 hq
  replace hB9 := Below.tail hB9 hq
  clear hq
  have z10 := HK.lt 0 rfl
  have hK := HK.base
  clear HK
  go_wp2
  go_ret
  exact ⟨rfl, hK⟩
set_option maxHeartbeats 4000000 in
set_option maxRecDepth 100000 in
theorem ma_ny (a : Option Addr) (c : Nat) (a2 : Option Addr) (c2 : Nat) (P B : List Int) (tx sx vx ty sy vy : Int) (gx gy : Bool) (w : World) (hS : SpIn w a c a2 c2 P B) (By : List Int) (kx xx : Int) (hck : CkG P B 0) (hr1 : RcG sx gx 0) (hr2 : RcG sy gy 0) (hap : ApG tx sx gx vx ty sy gy vy true) (h1 : StF P B tx sx gx vx kx xx) (hkx : (kx != 0) = true) (h2 : StY P B ty sy gy vy By) (h3 : StY P B ty sy gy vy By) (h4 : StF P By tx sx gx vx kx xx) (hsm : SmY P By By) :
    Calls Try.prog 8 #[.agg #[.slice a P.length c, .slice a2 B.length c2], .agg #[.int .i64 tx, .int .i64 sx, .bool gx, .int .i64 vx], .agg #[.int .i64 ty, .int .i64 sy, .bool gy, .int .i64 vy]] w fun e w' => e = .returned (.bool true) ∧ Below w.heap.size w w' := by
  have hS0 := Lib.hid hS
  clear hS
  go_enter Try.func8, Try.ntmps8
  have HK := Kw.start w
  go_wp2_with fail
  replace HK := HK.box (vs := [.slice a P.length c, .slice a2 B.length c2]) (t := 25)
  replace HK := HK.box (vs := [.int .i64 tx, .int .i64 sx, .bool gx, .int .i64 vx]) (t := 66)
  replace HK := HK.box (vs := [.int .i64 ty, .int .i64 sy, .bool gy, .int .i64 vy]) (t := 66)
  simp only [World.size_alloc] at HK
  refine (sane_c _).mono ?_
  rintro e w1 ⟨rfl, hq⟩
  replace HK := HK.below hq
  clear hq
  have z1 := HK.lt 0 rfl
  have y_0 := HK.get 0 0 rfl rfl
  have y_1 := HK.get 0 1 rfl rfl
  have y_2 := HK.get 0 2 rfl rfl
  have y_3 := HK.get 0 3 rfl rfl
  have y_s := HK.lt 0 rfl
  have x_0 := HK.get 1 0 rfl rfl
  have x_1 := HK.get 1 1 rfl rfl
  have x_2 := HK.get 1 2 rfl rfl
  have x_3 := HK.get 1 3 rfl rfl
  have x_s := HK.lt 1 rfl
  have p_0 := HK.get 2 0 rfl rfl
  have p_1 := HK.get 2 1 rfl rfl
  have p_s := HK.lt 2 rfl
  go_wp2_with fail
  clear y_0 y_1 y_2 y_3 y_s x_0 x_1 x_2 x_3 x_s p_0 p_1 p_s
  refine (hck _ _ _ _ _ (hS0.out.below HK.base)).mono ?_
  rintro e w2 ⟨rfl, hq⟩
  replace HK := HK.below hq
  clear hq
  have z2 := HK.lt 0 rfl
  have y_0 := HK.get 0 0 rfl rfl
  have y_1 := HK.get 0 1 rfl rfl
  have y_2 := HK.get 0 2 rfl rfl
  have y_3 := HK.get 0 3 rfl rfl
  have y_s := HK.lt 0 rfl
  have x_0 := HK.get 1 0 rfl rfl
  have x_1 := HK.get 1 1 rfl rfl
  have x_2 := HK.get 1 2 rfl rfl
  have x_3 := HK.get 1 3 rfl rfl
  have x_s := HK.lt 1 rfl
  have p_0 := HK.get 2 0 rfl rfl
  have p_1 := HK.get 2 1 rfl rfl
  have p_s := HK.lt 2 rfl
  go_wp2_with fail
  clear y_0 y_1 y_2 y_3 y_s x_0 x_1 x_2 x_3 x_s p_0 p_1 p_s
  refine (hr1 _).mono ?_
  rintro e w3 ⟨rfl, hq⟩
  replace HK := HK.below hq
  clear hq
  have z3 := HK.lt 0 rfl
  have y_0 := HK.get 0 0 rfl rfl
  have y_1 := HK.get 0 1 rfl rfl
  have y_2 := HK.get 0 2 rfl rfl
  have y_3 := HK.get 0 3 rfl rfl
  have y_s := HK.lt 0 rfl
  have x_0 := HK.get 1 0 rfl rfl
  have x_1 := HK.get 1 1 rfl rfl
  have x_2 := HK.get 1 2 rfl rfl
  have x_3 := HK.get 1 3 rfl rfl
  have x_s := HK.lt 1 rfl
  have p_0 := HK.get 2 0 rfl rfl
  have p_1 := HK.get 2 1 rfl rfl
  have p_s := HK.lt 2 rfl
  go_wp2_with fail
  clear y_0 y_1 y_2 y_3 y_s x_0 x_1 x_2 x_3 x_s p_0 p_1 p_s
  refine (hr2 _).mono ?_
  rintro e w4 ⟨rfl, hq⟩
  replace HK := HK.below hq
  clear hq
  have z4 := HK.lt 0 rfl
  have y_0 := HK.get 0 0 rfl rfl
  have y_1 := HK.get 0 1 rfl rfl
  have y_2 := HK.get 0 2 rfl rfl
  have y_3 := HK.get 0 3 rfl rfl
  have y_s := HK.lt 0 rfl
  have x_0 := HK.get 1 0 rfl rfl
  have x_1 := HK.get 1 1 rfl rfl
  have x_2 := HK.get 1 2 rfl rfl
  have x_3 := HK.get 1 3 rfl rfl
  have x_s := HK.lt 1 rfl
  have p_0 := HK.get 2 0 rfl rfl
  have p_1 := HK.get 2 1 rfl rfl
  have p_s := HK.lt 2 rfl
  go_wp2_with fail
  clear y_0 y_1 y_2 y_3 y_s x_0 x_1 x_2 x_3 x_s p_0 p_1 p_s
  refine (hap _).mono ?_
  rintro e w5 ⟨rfl, hq⟩
  replace HK := HK.below hq
  clear hq
  have z5 := HK.lt 0 rfl
  have y_0 := HK.get 0 0 rfl rfl
  have y_1 := HK.get 0 1 rfl rfl
  have y_2 := HK.get 0 2 rfl rfl
  have y_3 := HK.get 0 3 rfl rfl
  have y_s := HK.lt 0 rfl
  have x_0 := HK.get 1 0 rfl rfl
  have x_1 := HK.get 1 1 rfl rfl
  have x_2 := HK.get 1 2 rfl rfl
  have x_3 := HK.get 1 3 rfl rfl
  have x_s := HK.lt 1 rfl
  have p_0 := HK.get 2 0 rfl rfl
  have p_1 := HK.get 2 1 rfl rfl
  have p_s := HK.lt 2 rfl
  go_wp2_with fail
  clear y_0 y_1 y_2 y_3 y_s x_0 x_1 x_2 x_3 x_s p_0 p_1 p_s
  refine (h1 _ _ _ _ _ (hS0.out.below HK.base)).mono ?_
  rintro e w6 ⟨rfl, hq⟩
  replace HK := HK.below hq
  clear hq
  have z6 := HK.lt 0 rfl
  have y_0 := HK.get 0 0 rfl rfl
  have y_1 := HK.get 0 1 rfl rfl
  have y_2 := HK.get 0 2 rfl rfl
  have y_3 := HK.get 0 3 rfl rfl
  have y_s := HK.lt 0 rfl
  have x_0 := HK.get 1 0 rfl rfl
  have x_1 := HK.get 1 1 rfl rfl
  have x_2 := HK.get 1 2 rfl rfl
  have x_3 := HK.get 1 3 rfl rfl
  have x_s := HK.lt 1 rfl
  have p_0 := HK.get 2 0 rfl rfl
  have p_1 := HK.get 2 1 rfl rfl
  have p_s := HK.lt 2 rfl
  go_wp2_with fail
  replace HK := HK.box (vs := [.slice none 0 0, .slice none 0 0]) (t := 25)
  replace HK := HK.box (vs := [.int .i64 kx, .int .i64 xx]) (t := 34)
  simp only [World.size_alloc] at HK
  clear y_0 y_1 y_2 y_3 y_s x_0 x_1 x_2 x_3 x_s p_0 p_1 p_s
  refine (h2 _ _ _ _ _ (hS0.out.below HK.base)).mono ?_
  rintro e w7 ⟨a7, c7, b7, d7, rfl, ho7, hu7, hq⟩
  replace HK := HK.below hq
  clear hq
  have z7 := HK.lt 0 rfl
  have hX7 := spIn_own ho7 hu7
  have hB7 := Below.refl w7.heap.size w7
  have HK0 := HK.lt 0 rfl
  have f_0 := HK.get 0 0 rfl rfl
  have f_1 := HK.get 0 1 rfl rfl
  have f_s := HK.lt 0 rfl
  have a_0 := HK.get 1 0 rfl rfl
  have a_f0 := HK.fz 1 0 rfl
  have a_1 := HK.get 1 1 rfl rfl
  have a_f1 := HK.fz 1 1 rfl
  have a_s := HK.lt 1 rfl
  have y_0 := HK.get 2 0 rfl rfl
  have y_1 := HK.get 2 1 rfl rfl
  have y_2 := HK.get 2 2 rfl rfl
  have y_3 := HK.get 2 3 rfl rfl
  have y_s := HK.lt 2 rfl
  have x_0 := HK.get 3 0 rfl rfl
  have x_1 := HK.get 3 1 rfl rfl
  have x_2 := HK.get 3 2 rfl rfl
  have x_3 := HK.get 3 3 rfl rfl
  have x_s := HK.lt 3 rfl
  have p_0 := HK.get 4 0 rfl rfl
  have p_1 := HK.get 4 1 rfl rfl
  have p_s := HK.lt 4 rfl
  go_wp2_with fail
  replace HK := HK.put2l (l1 := [(w6.heap.size + 1, [.int .i64 kx, .int .i64 xx], 34)]) (l2 := [(w.heap.size + 1 + 1, [.int .i64 ty, .int .i64 sy, .bool gy, .int .i64 vy], 66), (w.heap.size + 1, [.int .i64 tx, .int .i64 sx, .bool gx, .int .i64 vx], 66), (w.heap.size, [.slice a P.length c, .slice a2 B.length c2], 25)]) (x := .slice a P.length c) (y := .slice a2 B.length c2) (by omega) (by
    intro f hf
    simp only [List.cons_append, List.nil_append, List.mem_cons, List.not_mem_nil, or_false] at hf
    rcases hf with rfl | rfl | rfl | rfl
    all_goals (dsimp only; omega))
  simp only [List.cons_append, List.nil_append] at HK
  replace hX7 := spIn_own (ownsRow_setCell_below (a := ⟨w6.heap.size, 1, none⟩) (ownsRow_setCell_below (a := ⟨w6.heap.size, 0, none⟩) ho7 (by show w6.heap.size < _; have := HK0; simp only [World.size_alloc] at *; omega) (.slice a P.length c)) (by show w6.heap.size < _; have := HK0; simp only [World.size_alloc] at *; omega) (.slice a2 B.length c2)) (ownsRow_setCell_below (a := ⟨w6.heap.size, 1, none⟩) (ownsRow_setCell_below (a := ⟨w6.heap.size, 0, none⟩) hu7 (by show w6.heap.size < _; have := HK0; simp only [World.size_alloc] at *; omega) (.slice a P.length c)) (by show w6.heap.size < _; have := HK0; simp only [World.size_alloc] at *; omega) (.slice a2 B.length c2))
  replace hB7 := Below.refl ((w7.setCell ⟨w6.heap.size, 0, none⟩ (.slice a P.length c)).setCell ⟨w6.heap.size, 1, none⟩ (.slice a2 B.length c2)).heap.size ((w7.setCell ⟨w6.heap.size, 0, none⟩ (.slice a P.length c)).setCell ⟨w6.heap.size, 1, none⟩ (.slice a2 B.length c2))
  replace HK := HK.box (vs := [.slice a7 P.length c7, .slice b7 By.length d7]) (t := 25)
  replace hB7 := b_alloc (o := (.cells #[.slice a7 P.length c7, .slice b7 By.length d7] 25)) hB7
  replace HK := HK.box (vs := [.int .i64 0, .int .i64 0]) (t := 34)
  replace hB7 := b_alloc (o := (.cells #[.int .i64 0, .int .i64 0] 34)) hB7
  simp only [World.size_alloc, World.size_setCell] at HK
  clear f_0 f_1 f_s a_0 a_f0 a_1 a_f1 a_s y_0 y_1 y_2 y_3 y_s x_0 x_1 x_2 x_3 x_s p_0 p_1 p_s
  refine (h3 _ _ _ _ _ (hS0.out.below HK.base)).mono ?_
  rintro e w8 ⟨a8, c8, b8, d8, rfl, ho8, hu8, hq⟩
  replace HK := HK.below hq
  replace hB7 := Below.tail hB7 hq
  clear hq
  have z8 := HK.lt 0 rfl
  have hX8 := spIn_own ho8 hu8
  have hB8 := Below.refl w8.heap.size w8
  have b_0 := HK.get 1 0 rfl rfl
  have b_1 := HK.get 1 1 rfl rfl
  have b_s := HK.lt 1 rfl
  have b_t := Nat.lt_succ_of_lt b_s
  have x_0 := HK.get 5 0 rfl rfl
  have x_1 := HK.get 5 1 rfl rfl
  have x_2 := HK.get 5 2 rfl rfl
  have x_3 := HK.get 5 3 rfl rfl
  have x_s := HK.lt 5 rfl
  have x_t := Nat.lt_succ_of_lt x_s
  go_wp2_with fail
  replace HK := HK.box (vs := [.slice a8 P.length c8, .slice b8 By.length d8]) (t := 25)
  replace hB7 := b_alloc (o := (.cells #[.slice a8 P.length c8, .slice b8 By.length d8] 25)) hB7
  replace hB8 := b_alloc (o := (.cells #[.slice a8 P.length c8, .slice b8 By.length d8] 25)) hB8
  replace HK := HK.box (vs := [.int .i64 0, .int .i64 0]) (t := 34)
  replace hB7 := b_alloc (o := (.cells #[.int .i64 0, .int .i64 0] 34)) hB7
  replace hB8 := b_alloc (o := (.cells #[.int .i64 0, .int .i64 0] 34)) hB8
  simp only [World.size_alloc] at HK
  clear b_0 b_1 b_s b_t x_0 x_1 x_2 x_3 x_s x_t
  refine (h4 _ _ _ _ _ (hX7.below hB7)).mono ?_
  rintro e w9 ⟨rfl, hq⟩
  replace HK := HK.below hq
  replace hB7 := Below.tail hB7 hq
  replace hB8 := Below.tail hB8 hq
  clear hq
  have z9 := HK.lt 0 rfl
  have h_0 := HK.get 0 0 rfl rfl
  have h_1 := HK.get 0 1 rfl rfl
  have h_s := HK.lt 0 rfl
  have h_t := Nat.lt_succ_of_lt h_s
  have c_0 := HK.get 1 0 rfl rfl
  have c_f0 := HK.fz 1 0 rfl
  have c_1 := HK.get 1 1 rfl rfl
  have c_f1 := HK.fz 1 1 rfl
  have c_s := HK.lt 1 rfl
  have c_t := Nat.lt_succ_of_lt c_s
  have g_0 := HK.get 2 0 rfl rfl
  have g_1 := HK.get 2 1 rfl rfl
  have g_s := HK.lt 2 rfl
  have g_t := Nat.lt_succ_of_lt g_s
  have b_0 := HK.get 3 0 rfl rfl
  have b_1 := HK.get 3 1 rfl rfl
  have b_s := HK.lt 3 rfl
  have b_t := Nat.lt_succ_of_lt b_s
  have f_0 := HK.get 4 0 rfl rfl
  have f_1 := HK.get 4 1 rfl rfl
  have f_s := HK.lt 4 rfl
  have f_t := Nat.lt_succ_of_lt f_s
  have a_0 := HK.get 5 0 rfl rfl
  have a_f0 := HK.fz 5 0 rfl
  have a_1 := HK.get 5 1 rfl rfl
  have a_f1 := HK.fz 5 1 rfl
  have a_s := HK.lt 5 rfl
  have a_t := Nat.lt_succ_of_lt a_s
  go_wp2_with fail
  replace HK := HK.box (vs := [.slice a7 P.length c7, .slice b7 By.length d7]) (t := 25)
  replace hB7 := b_alloc (o := (.cells #[.slice a7 P.length c7, .slice b7 By.length d7] 25)) hB7
  replace hB8 := b_alloc (o := (.cells #[.slice a7 P.length c7, .slice b7 By.length d7] 25)) hB8
  replace HK := HK.box (vs := [.int .i64 kx, .int .i64 xx]) (t := 34)
  replace hB7 := b_alloc (o := (.cells #[.int .i64 kx, .int .i64 xx] 34)) hB7
  replace hB8 := b_alloc (o := (.cells #[.int .i64 kx, .int .i64 xx] 34)) hB8
  simp only [World.size_alloc] at HK
  clear h_0 h_1 h_s h_t c_0 c_f0 c_1 c_f1 c_s c_t g_0 g_1 g_s g_t b_0 b_1 b_s b_t f_0 f_1 f_s f_t a_0 a_f0 a_1 a_f1 a_s a_t
  refine (hsm _ _ _ _ _ _ _ _ _ (hX8.below hB8) (hX7.below hB7)).mono ?_
  rintro e w10 ⟨rfl, hq⟩
  replace HK := HK.below hq
  replace hB7 := Below.tail hB7 hq
  replace hB8 := Below.tail hB8 hq
  clear hq
  have z10 := HK.lt 0 rfl
  have hK := HK.base
  clear HK
  go_wp2
  go_ret
  exact ⟨rfl, hK⟩
set_option maxHeartbeats 4000000 in
set_option maxRecDepth 100000 in
theorem ma_nn (a : Option Addr) (c : Nat) (a2 : Option Addr) (c2 : Nat) (P B : List Int) (tx sx vx ty sy vy : Int) (gx gy : Bool) (w : World) (hS : SpIn w a c a2 c2 P B) (kx xx ky xy : Int) (hck : CkG P B 0) (hr1 : RcG sx gx 0) (hr2 : RcG sy gy 0) (hap : ApG tx sx gx vx ty sy gy vy true) (h1 : StF P B tx sx gx vx kx xx) (hkx : (kx != 0) = true) (h2 : StF P B ty sy gy vy ky xy) (hky : (ky != 0) = true) (h3 : StF P B ty sy gy vy ky xy) (h4 : StF P B tx sx gx vx kx xx) (hsm : SmY P B B) :
    Calls Try.prog 8 #[.agg #[.slice a P.length c, .slice a2 B.length c2], .agg #[.int .i64 tx, .int .i64 sx, .bool gx, .int .i64 vx], .agg #[.int .i64 ty, .int .i64 sy, .bool gy, .int .i64 vy]] w fun e w' => e = .returned (.bool true) ∧ Below w.heap.size w w' := by
  have hS0 := Lib.hid hS
  clear hS
  go_enter Try.func8, Try.ntmps8
  have HK := Kw.start w
  go_wp2_with fail
  replace HK := HK.box (vs := [.slice a P.length c, .slice a2 B.length c2]) (t := 25)
  replace HK := HK.box (vs := [.int .i64 tx, .int .i64 sx, .bool gx, .int .i64 vx]) (t := 66)
  replace HK := HK.box (vs := [.int .i64 ty, .int .i64 sy, .bool gy, .int .i64 vy]) (t := 66)
  simp only [World.size_alloc] at HK
  refine (sane_c _).mono ?_
  rintro e w1 ⟨rfl, hq⟩
  replace HK := HK.below hq
  clear hq
  have z1 := HK.lt 0 rfl
  have y_0 := HK.get 0 0 rfl rfl
  have y_1 := HK.get 0 1 rfl rfl
  have y_2 := HK.get 0 2 rfl rfl
  have y_3 := HK.get 0 3 rfl rfl
  have y_s := HK.lt 0 rfl
  have x_0 := HK.get 1 0 rfl rfl
  have x_1 := HK.get 1 1 rfl rfl
  have x_2 := HK.get 1 2 rfl rfl
  have x_3 := HK.get 1 3 rfl rfl
  have x_s := HK.lt 1 rfl
  have p_0 := HK.get 2 0 rfl rfl
  have p_1 := HK.get 2 1 rfl rfl
  have p_s := HK.lt 2 rfl
  go_wp2_with fail
  clear y_0 y_1 y_2 y_3 y_s x_0 x_1 x_2 x_3 x_s p_0 p_1 p_s
  refine (hck _ _ _ _ _ (hS0.out.below HK.base)).mono ?_
  rintro e w2 ⟨rfl, hq⟩
  replace HK := HK.below hq
  clear hq
  have z2 := HK.lt 0 rfl
  have y_0 := HK.get 0 0 rfl rfl
  have y_1 := HK.get 0 1 rfl rfl
  have y_2 := HK.get 0 2 rfl rfl
  have y_3 := HK.get 0 3 rfl rfl
  have y_s := HK.lt 0 rfl
  have x_0 := HK.get 1 0 rfl rfl
  have x_1 := HK.get 1 1 rfl rfl
  have x_2 := HK.get 1 2 rfl rfl
  have x_3 := HK.get 1 3 rfl rfl
  have x_s := HK.lt 1 rfl
  have p_0 := HK.get 2 0 rfl rfl
  have p_1 := HK.get 2 1 rfl rfl
  have p_s := HK.lt 2 rfl
  go_wp2_with fail
  clear y_0 y_1 y_2 y_3 y_s x_0 x_1 x_2 x_3 x_s p_0 p_1 p_s
  refine (hr1 _).mono ?_
  rintro e w3 ⟨rfl, hq⟩
  replace HK := HK.below hq
  clear hq
  have z3 := HK.lt 0 rfl
  have y_0 := HK.get 0 0 rfl rfl
  have y_1 := HK.get 0 1 rfl rfl
  have y_2 := HK.get 0 2 rfl rfl
  have y_3 := HK.get 0 3 rfl rfl
  have y_s := HK.lt 0 rfl
  have x_0 := HK.get 1 0 rfl rfl
  have x_1 := HK.get 1 1 rfl rfl
  have x_2 := HK.get 1 2 rfl rfl
  have x_3 := HK.get 1 3 rfl rfl
  have x_s := HK.lt 1 rfl
  have p_0 := HK.get 2 0 rfl rfl
  have p_1 := HK.get 2 1 rfl rfl
  have p_s := HK.lt 2 rfl
  go_wp2_with fail
  clear y_0 y_1 y_2 y_3 y_s x_0 x_1 x_2 x_3 x_s p_0 p_1 p_s
  refine (hr2 _).mono ?_
  rintro e w4 ⟨rfl, hq⟩
  replace HK := HK.below hq
  clear hq
  have z4 := HK.lt 0 rfl
  have y_0 := HK.get 0 0 rfl rfl
  have y_1 := HK.get 0 1 rfl rfl
  have y_2 := HK.get 0 2 rfl rfl
  have y_3 := HK.get 0 3 rfl rfl
  have y_s := HK.lt 0 rfl
  have x_0 := HK.get 1 0 rfl rfl
  have x_1 := HK.get 1 1 rfl rfl
  have x_2 := HK.get 1 2 rfl rfl
  have x_3 := HK.get 1 3 rfl rfl
  have x_s := HK.lt 1 rfl
  have p_0 := HK.get 2 0 rfl rfl
  have p_1 := HK.get 2 1 rfl rfl
  have p_s := HK.lt 2 rfl
  go_wp2_with fail
  clear y_0 y_1 y_2 y_3 y_s x_0 x_1 x_2 x_3 x_s p_0 p_1 p_s
  refine (hap _).mono ?_
  rintro e w5 ⟨rfl, hq⟩
  replace HK := HK.below hq
  clear hq
  have z5 := HK.lt 0 rfl
  have y_0 := HK.get 0 0 rfl rfl
  have y_1 := HK.get 0 1 rfl rfl
  have y_2 := HK.get 0 2 rfl rfl
  have y_3 := HK.get 0 3 rfl rfl
  have y_s := HK.lt 0 rfl
  have x_0 := HK.get 1 0 rfl rfl
  have x_1 := HK.get 1 1 rfl rfl
  have x_2 := HK.get 1 2 rfl rfl
  have x_3 := HK.get 1 3 rfl rfl
  have x_s := HK.lt 1 rfl
  have p_0 := HK.get 2 0 rfl rfl
  have p_1 := HK.get 2 1 rfl rfl
  have p_s := HK.lt 2 rfl
  go_wp2_with fail
  clear y_0 y_1 y_2 y_3 y_s x_0 x_1 x_2 x_3 x_s p_0 p_1 p_s
  refine (h1 _ _ _ _ _ (hS0.out.below HK.base)).mono ?_
  rintro e w6 ⟨rfl, hq⟩
  replace HK := HK.below hq
  clear hq
  have z6 := HK.lt 0 rfl
  have y_0 := HK.get 0 0 rfl rfl
  have y_1 := HK.get 0 1 rfl rfl
  have y_2 := HK.get 0 2 rfl rfl
  have y_3 := HK.get 0 3 rfl rfl
  have y_s := HK.lt 0 rfl
  have x_0 := HK.get 1 0 rfl rfl
  have x_1 := HK.get 1 1 rfl rfl
  have x_2 := HK.get 1 2 rfl rfl
  have x_3 := HK.get 1 3 rfl rfl
  have x_s := HK.lt 1 rfl
  have p_0 := HK.get 2 0 rfl rfl
  have p_1 := HK.get 2 1 rfl rfl
  have p_s := HK.lt 2 rfl
  go_wp2_with fail
  replace HK := HK.box (vs := [.slice none 0 0, .slice none 0 0]) (t := 25)
  replace HK := HK.box (vs := [.int .i64 kx, .int .i64 xx]) (t := 34)
  simp only [World.size_alloc] at HK
  clear y_0 y_1 y_2 y_3 y_s x_0 x_1 x_2 x_3 x_s p_0 p_1 p_s
  refine (h2 _ _ _ _ _ (hS0.out.below HK.base)).mono ?_
  rintro e w7 ⟨rfl, hq⟩
  replace HK := HK.below hq
  clear hq
  have z7 := HK.lt 0 rfl
  have HK0 := HK.lt 0 rfl
  have f_0 := HK.get 0 0 rfl rfl
  have f_1 := HK.get 0 1 rfl rfl
  have f_s := HK.lt 0 rfl
  have a_0 := HK.get 1 0 rfl rfl
  have a_f0 := HK.fz 1 0 rfl
  have a_1 := HK.get 1 1 rfl rfl
  have a_f1 := HK.fz 1 1 rfl
  have a_s := HK.lt 1 rfl
  have y_0 := HK.get 2 0 rfl rfl
  have y_1 := HK.get 2 1 rfl rfl
  have y_2 := HK.get 2 2 rfl rfl
  have y_3 := HK.get 2 3 rfl rfl
  have y_s := HK.lt 2 rfl
  have x_0 := HK.get 3 0 rfl rfl
  have x_1 := HK.get 3 1 rfl rfl
  have x_2 := HK.get 3 2 rfl rfl
  have x_3 := HK.get 3 3 rfl rfl
  have x_s := HK.lt 3 rfl
  have p_0 := HK.get 4 0 rfl rfl
  have p_1 := HK.get 4 1 rfl rfl
  have p_s := HK.lt 4 rfl
  go_wp2_with fail
  replace HK := HK.put2l (l1 := [(w6.heap.size + 1, [.int .i64 kx, .int .i64 xx], 34)]) (l2 := [(w.heap.size + 1 + 1, [.int .i64 ty, .int .i64 sy, .bool gy, .int .i64 vy], 66), (w.heap.size + 1, [.int .i64 tx, .int .i64 sx, .bool gx, .int .i64 vx], 66), (w.heap.size, [.slice a P.length c, .slice a2 B.length c2], 25)]) (x := .slice a P.length c) (y := .slice a2 B.length c2) (by omega) (by
    intro f hf
    simp only [List.cons_append, List.nil_append, List.mem_cons, List.not_mem_nil, or_false] at hf
    rcases hf with rfl | rfl | rfl | rfl
    all_goals (dsimp only; omega))
  simp only [List.cons_append, List.nil_append] at HK
  replace HK := HK.box (vs := [.slice a P.length c, .slice a2 B.length c2]) (t := 25)
  replace HK := HK.box (vs := [.int .i64 ky, .int .i64 xy]) (t := 34)
  simp only [World.size_alloc, World.size_setCell] at HK
  clear f_0 f_1 f_s a_0 a_f0 a_1 a_f1 a_s y_0 y_1 y_2 y_3 y_s x_0 x_1 x_2 x_3 x_s p_0 p_1 p_s
  refine (h3 _ _ _ _ _ (hS0.out.below HK.base)).mono ?_
  rintro e w8 ⟨rfl, hq⟩
  replace HK := HK.below hq
  clear hq
  have z8 := HK.lt 0 rfl
  have b_0 := HK.get 1 0 rfl rfl
  have b_1 := HK.get 1 1 rfl rfl
  have b_s := HK.lt 1 rfl
  have b_t := Nat.lt_succ_of_lt b_s
  have x_0 := HK.get 5 0 rfl rfl
  have x_1 := HK.get 5 1 rfl rfl
  have x_2 := HK.get 5 2 rfl rfl
  have x_3 := HK.get 5 3 rfl rfl
  have x_s := HK.lt 5 rfl
  have x_t := Nat.lt_succ_of_lt x_s
  go_wp2_with fail
  replace HK := HK.box (vs := [.slice none 0 0, .slice none 0 0]) (t := 25)
  replace HK := HK.box (vs := [.int .i64 ky, .int .i64 xy]) (t := 34)
  simp only [World.size_alloc] at HK
  clear b_0 b_1 b_s b_t x_0 x_1 x_2 x_3 x_s x_t
  refine (h4 _ _ _ _ _ (hS0.out.below HK.base)).mono ?_
  rintro e w9 ⟨rfl, hq⟩
  replace HK := HK.below hq
  clear hq
  have z9 := HK.lt 0 rfl
  have HK0 := HK.lt 0 rfl
  have h_0 := HK.get 0 0 rfl rfl
  have h_1 := HK.get 0 1 rfl rfl
  have h_s := HK.lt 0 rfl
  have h_t := Nat.lt_succ_of_lt h_s
  have c_0 := HK.get 1 0 rfl rfl
  have c_f0 := HK.fz 1 0 rfl
  have c_1 := HK.get 1 1 rfl rfl
  have c_f1 := HK.fz 1 1 rfl
  have c_s := HK.lt 1 rfl
  have c_t := Nat.lt_succ_of_lt c_s
  have g_0 := HK.get 2 0 rfl rfl
  have g_1 := HK.get 2 1 rfl rfl
  have g_s := HK.lt 2 rfl
  have g_t := Nat.lt_succ_of_lt g_s
  have b_0 := HK.get 3 0 rfl rfl
  have b_1 := HK.get 3 1 rfl rfl
  have b_s := HK.lt 3 rfl
  have b_t := Nat.lt_succ_of_lt b_s
  have f_0 := HK.get 4 0 rfl rfl
  have f_1 := HK.get 4 1 rfl rfl
  have f_s := HK.lt 4 rfl
  have f_t := Nat.lt_succ_of_lt f_s
  have a_0 := HK.get 5 0 rfl rfl
  have a_f0 := HK.fz 5 0 rfl
  have a_1 := HK.get 5 1 rfl rfl
  have a_f1 := HK.fz 5 1 rfl
  have a_s := HK.lt 5 rfl
  have a_t := Nat.lt_succ_of_lt a_s
  go_wp2_with fail
  replace HK := HK.put2l (l1 := [(w8.heap.size + 1, [.int .i64 ky, .int .i64 xy], 34)]) (l2 := [(w7.heap.size + 1, [.int .i64 ky, .int .i64 xy], 34), (w7.heap.size, [.slice a P.length c, .slice a2 B.length c2], 25), (w6.heap.size + 1, [.int .i64 kx, .int .i64 xx], 34), (w6.heap.size, [.slice a P.length c, .slice a2 B.length c2], 25), (w.heap.size + 1 + 1, [.int .i64 ty, .int .i64 sy, .bool gy, .int .i64 vy], 66), (w.heap.size + 1, [.int .i64 tx, .int .i64 sx, .bool gx, .int .i64 vx], 66), (w.heap.size, [.slice a P.length c, .slice a2 B.length c2], 25)]) (x := .slice a P.length c) (y := .slice a2 B.length c2) (by omega) (by
    intro f hf
    simp only [List.cons_append, List.nil_append, List.mem_cons, List.not_mem_nil, or_false] at hf
    rcases hf with rfl | rfl | rfl | rfl | rfl | rfl | rfl | rfl
    all_goals (dsimp only; omega))
  simp only [List.cons_append, List.nil_append] at HK
  replace HK := HK.box (vs := [.slice a P.length c, .slice a2 B.length c2]) (t := 25)
  replace HK := HK.box (vs := [.int .i64 kx, .int .i64 xx]) (t := 34)
  simp only [World.size_alloc, World.size_setCell] at HK
  clear h_0 h_1 h_s h_t c_0 c_f0 c_1 c_f1 c_s c_t g_0 g_1 g_s g_t b_0 b_1 b_s b_t f_0 f_1 f_s f_t a_0 a_f0 a_1 a_f1 a_s a_t
  refine (hsm _ _ _ _ _ _ _ _ _ (hS0.out.below HK.base) (hS0.out.below HK.base)).mono ?_
  rintro e w10 ⟨rfl, hq⟩
  replace HK := HK.below hq
  clear hq
  have z10 := HK.lt 0 rfl
  have hK := HK.base
  clear HK
  go_wp2
  go_ret
  exact ⟨rfl, hK⟩
end Go.Proofs.Ytdbcbmdekdfdoaa
