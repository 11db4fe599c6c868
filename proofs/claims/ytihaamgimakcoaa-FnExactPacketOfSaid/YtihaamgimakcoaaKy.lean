/- Both ends of a segment: the program's and the model's; the laws' own sizes and copies of packets and segments. -/
import Derived.Test.YtihaamgimakcoaaIpOk
import Derived.Test.YtihaamgimakcoaaTcpL
namespace Go.Proofs.Ytihaamgimakcoaa
open Go.RowKit

set_option maxRecDepth 100000 in
set_option maxHeartbeats 4000000 in
theorem key_impl (s d t p i : Int) (bb : List UInt8) (f o q k g n : Int) (a : Option Addr) (c : Nat) (l : List Rg) (b : List UInt8) (w : World) : Calls Try.prog 11 #[ipV s d t p i bb, tcpV f o q k g n a c l b] w fun e w' => e = .returned (.agg #[.int .i64 s, .int .i64 f, .int .i64 d, .int .i64 o]) ∧ w.grownBy w' none := by
  go_enter Try.func11, Try.ntmps11
  go_wp2
  exact bodyPost_ret (v := .agg #[.int .i64 s, .int .i64 f, .int .i64 d, .int .i64 o]) (by simp [results, Try.results11, go_sem]) rfl ⟨rfl, grownBy_trans (World.grownBy_alloc _ _ _) (grownBy_trans (World.grownBy_alloc _ _ _) (World.grownBy_alloc _ _ _))⟩

set_option maxRecDepth 100000 in
set_option maxHeartbeats 4000000 in
theorem key_spec1 (s d t p i : Int) (bb : List UInt8) (f o q k g n : Int) (a : Option Addr) (c : Nat) (l : List Rg) (b : List UInt8) (w : World) : Calls Try.prog 24 #[ipV s d t p i bb, tcpV f o q k g n a c l b] w fun e w' => e = .returned (.agg #[.int .i64 s, .int .i64 f, .int .i64 d, .int .i64 o]) ∧ w.grownBy w' none := by
  go_enter Try.func24, Try.ntmps24
  go_wp2
  exact bodyPost_ret (v := .agg #[.int .i64 s, .int .i64 f, .int .i64 d, .int .i64 o]) (by simp [results, Try.results24, go_sem]) rfl ⟨rfl, grownBy_trans (World.grownBy_alloc _ _ _) (grownBy_trans (World.grownBy_alloc _ _ _) (World.grownBy_alloc _ _ _))⟩

/-- Four cells of one's own block. -/
structure Four (w : World) (E : Nat) (x y z u : Value) : Prop where
  a : w.cell? ⟨E, 0, none⟩ = some x
  b : w.cell? ⟨E, 1, none⟩ = some y
  c : w.cell? ⟨E, 2, none⟩ = some z
  d : w.cell? ⟨E, 3, none⟩ = some u
  f : w.frozen? ⟨E, 0, none⟩ = false
  g : w.frozen? ⟨E, 1, none⟩ = false
  h : w.frozen? ⟨E, 2, none⟩ = false
  i : w.frozen? ⟨E, 3, none⟩ = false
theorem four_new (w : World) (x y z u : Value) (T : TypeId) : Four (w.alloc (.cells #[x, y, z, u] T)) w.heap.size x y z u := ⟨by go_simp, by go_simp, by go_simp, by go_simp, by go_simp, by go_simp, by go_simp, by go_simp⟩
theorem four_far {a b : World} (hg : a.grownBy b none) {p : Addr} {v : Value} (h : a.cell? p = some v) (hf : a.frozen? p = false) : b.frozen? p = false := by
  rw [hg.frozen_far p (cell_in h) (by simp)]
  exact hf
theorem Four.kept {w w' : World} {E : Nat} {x y z u : Value} (h : Four w E x y z u) (hg : w.grownBy w' none) : Four w' E x y z u :=
  ⟨hg.cell h.a (by simp), hg.cell h.b (by simp), hg.cell h.c (by simp), hg.cell h.d (by simp), four_far hg h.a h.f, four_far hg h.b h.g, four_far hg h.c h.h, four_far hg h.d h.i⟩
theorem four_sets {w : World} {E : Nat} (x y z u : Value) : w.grownBy ((((w.setCell ⟨E, 0, none⟩ x).setCell ⟨E, 1, none⟩ y).setCell ⟨E, 2, none⟩ z).setCell ⟨E, 3, none⟩ u) (some E) :=
  grownBy_trans (grownBy_set _ _ _ _) (grownBy_trans (grownBy_set _ _ _ _) (grownBy_trans (grownBy_set _ _ _ _) (grownBy_set _ _ _ _)))

set_option maxRecDepth 100000 in
set_option maxHeartbeats 4000000 in
theorem key_spec (s d t p i : Int) (bb : List UInt8) (f o q k g n : Int) (a : Option Addr) (c : Nat) (l : List Rg) (b : List UInt8) (w : World) : Calls Try.prog 8 #[ipV s d t p i bb, tcpV f o q k g n a c l b] w fun e w' => e = .returned (.agg #[.int .i64 s, .int .i64 f, .int .i64 d, .int .i64 o]) ∧ w.grownBy w' none := by
  have hA := grownBy_trans (World.grownBy_alloc w (.cells #[.int .i64 s, .int .i64 d, .int .i64 t, .int .i64 p, .int .i64 i, .string ⟨bb.toArray⟩] 32) none) (World.grownBy_alloc _ (.cells #[.int .i64 f, .int .i64 o, .int .i64 q, .int .i64 k, .int .i64 g, .int .i64 n, .slice a l.length c, .string ⟨b.toArray⟩] 36) none)
  have hz : ((w.alloc (.cells #[.int .i64 s, .int .i64 d, .int .i64 t, .int .i64 p, .int .i64 i, .string ⟨bb.toArray⟩] 32)).alloc (.cells #[.int .i64 f, .int .i64 o, .int .i64 q, .int .i64 k, .int .i64 g, .int .i64 n, .slice a l.length c, .string ⟨b.toArray⟩] 36)).heap.size = w.heap.size + 1 + 1 := by simp
  have hF := four_new ((w.alloc (.cells #[.int .i64 s, .int .i64 d, .int .i64 t, .int .i64 p, .int .i64 i, .string ⟨bb.toArray⟩] 32)).alloc (.cells #[.int .i64 f, .int .i64 o, .int .i64 q, .int .i64 k, .int .i64 g, .int .i64 n, .slice a l.length c, .string ⟨b.toArray⟩] 36)) (.int .i64 0) (.int .i64 0) (.int .i64 0) (.int .i64 0) 30
  rw [hz] at hF
  have HF := Lib.hid (And.intro hA hF)
  clear hA hz hF
  go_enter Try.func8, Try.ntmps8
  go_wp2_with fail
  refine (key_spec1 s d t p i bb f o q k g n a c l b _).mono ?_
  rintro e w1 ⟨rfl, hg⟩
  have H1 := HF.out.2.kept hg
  have HG := Lib.hid (grownBy_new (grownBy_trans (grownBy_trans HF.out.1 (World.grownBy_alloc _ _ _)) hg) (four_sets (E := w.heap.size + 1 + 1) (.int .i64 s) (.int .i64 f) (.int .i64 d) (.int .i64 o)) (by omega))
  obtain ⟨a0, a1, a2, a3, b0, b1, b2, b3⟩ := H1
  clear hg
  go_wp2_with fail
  exact bodyPost_ret (v := .agg #[.int .i64 s, .int .i64 f, .int .i64 d, .int .i64 o]) (by simp [results, Try.results8, go_sem, a0, a1, a2, a3]) rfl ⟨rfl, HG.out⟩

set_option maxRecDepth 100000 in
theorem eq_key (s f d o : Int) (w : World) : Calls Try.prog 12 #[.agg #[.int .i64 s, .int .i64 f, .int .i64 d, .int .i64 o], .agg #[.int .i64 s, .int .i64 f, .int .i64 d, .int .i64 o]] w fun e w' => e = .returned (.bool true) ∧ w.grownBy w' none := by
  go_enter Try.func12, Try.ntmps12
  go_wp2
  go_ret
  exact ⟨rfl, grownBy_trans (World.grownBy_alloc _ _ _) (World.grownBy_alloc _ _ _)⟩

theorem sz_ip (s d t p i : Int) (b : List UInt8) (w : World) (hb : b.length ≤ 9223372036854775807) : Calls Try.prog 6 #[ipV s d t p i b, .int .i64 1048576] w fun e w' => (∃ r : Int, e = .returned (.int .i64 r) ∧ r ≤ 1048576) ∧ w.grownBy w' none := by
  by_cases h1 : (b.length : Int) ≤ 1048576
  all_goals
    go_enter Try.func6, Try.ntmps6
    go_wp2
    go_ret
    exact ⟨⟨_, rfl, by omega⟩, World.grownBy_alloc _ _ _⟩

theorem to_ip (s d t p i : Int) (b : List UInt8) (w : World) : Calls Try.prog 9 #[ipV s d t p i b] w fun e w' => e = .returned (ipV s d t p i b) ∧ w.grownBy w' none := by
  go_enter Try.func9, Try.ntmps9
  go_wp2
  exact bodyPost_ret (v := ipV s d t p i b) (by simp [results, Try.results9, go_sem]) rfl ⟨rfl, grownBy_trans (World.grownBy_alloc _ _ _) (grownBy_trans (World.grownBy_alloc _ _ _) (World.grownBy_alloc _ _ _))⟩

end Go.Proofs.Ytihaamgimakcoaa
