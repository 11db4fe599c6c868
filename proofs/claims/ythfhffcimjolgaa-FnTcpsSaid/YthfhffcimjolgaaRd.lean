/- The reader of drawn bytes: each of its steps answers a number in its range and writes nothing but the reader's own block. -/
import Derived.Test.YthfhffcimjolgaaSeq
import Derived.Deep.QuietTactic
import Derived.BigQuiet
import Derived.Outline
import Derived.Below
import Derived.OwnWalk
import Derived.WalkSpells
import Derived.OpenShut
import Derived.LoopTactic
import Derived.IntWalk
namespace Go.Proofs.Ythfhffcimjolgaa
open Go.RowKit

/-- The bytes that the reader goes through: none, or a row of cells, in a block ahead of r. -/
def CodeAt (w : World) (a : Option Addr) (n r : Nat) : Prop :=
  n = 0 ∨ ∃ b off, a = some ⟨b, off, none⟩ ∧ b < r ∧ b < w.heap.size ∧ ∀ i, i < n → ∃ v : Int, 0 ≤ v ∧ v ≤ 255 ∧ w.cell? ⟨b, off + i, none⟩ = some (.int .u8 v)

/-- A reader lies in block r. -/
def RdOk (w : World) (r : Nat) : Prop :=
  ∃ a n c p, w.cell? ⟨r, 0, none⟩ = some (.slice a n c) ∧ w.cell? ⟨r, 1, none⟩ = some (.int .i64 (p : Nat)) ∧ w.frozen? ⟨r, 1, none⟩ = false ∧ p ≤ n ∧ n ≤ maxLen ∧ r < w.heap.size ∧ CodeAt w a n r

theorem grownBy_trans {a b c : World} {r : Option Nat} (h : a.grownBy b r) (k : b.grownBy c r) : a.grownBy c r :=
  ⟨k.os.trans h.os, k.tape.trans h.tape, k.output.trans h.output, Nat.le_trans h.size k.size, fun i hi hne => (k.block i (Nat.lt_of_lt_of_le hi h.size) hne).trans (h.block i hi hne)⟩
theorem grownBy_drewN {a : World} {r : Option Nat} (n : Nat) : a.grownBy (a.drewN n) r := ⟨rfl, rfl, rfl, Nat.le_refl _, fun _ _ _ => rfl⟩
theorem grownBy_set (w : World) (b o : Nat) (v : Value) : w.grownBy (w.setCell ⟨b, o, none⟩ v) (some b) :=
  ⟨rfl, rfl, rfl, by simp [World.setCell], fun k _ hne => Below.heap_setCell _ _ _ _ (fun e => hne (by rw [e]))⟩
theorem below_grown {a b : World} {r B : Nat} (h : a.grownBy b (some r)) (hB : B ≤ r) (hs : B ≤ a.heap.size) : Below B a b :=
  (Below.refl B a).grown h hs (fun k e => by cases e; exact hB)

theorem CodeAt.kept {w w' : World} {a : Option Addr} {n r : Nat} (h : CodeAt w a n r) (hg : w.grownBy w' (some r)) : CodeAt w' a n r := by
  rcases h with h | ⟨b, off, ha, hne, hlt, hc⟩
  · exact .inl h
  · exact .inr ⟨b, off, ha, hne, Nat.lt_of_lt_of_le hlt hg.size, fun i hi => let ⟨v, h0, h1, h2⟩ := hc i hi; ⟨v, h0, h1, hg.cell h2 (by simp; omega)⟩⟩

def NextPost (w : World) (r : Nat) (lo hi : Int) (e : Ending) (w' : World) : Prop :=
  ∃ v : Int, lo ≤ v ∧ v ≤ hi ∧ e = .returned (.int .i64 v) ∧ w.grownBy w' (some r) ∧ RdOk w' r

set_option maxRecDepth 100000 in
theorem next_any (r : Nat) (w : World) (h : RdOk w r) : Calls Try.prog 51 #[.pointer (some ⟨r, 0, none⟩)] w (NextPost w r 0 255) := by
  obtain ⟨a, n, c, p, h0, h1, hf, hp, hn, hr, hc⟩ := h
  have hn' := hn
  unfold maxLen at hn
  by_cases hlt : p < n
  · rcases hc with rfl | ⟨b, off, rfl, hbr, hbl, hcell⟩
    · omega
    · have hne : b ≠ r := by omega
      have hcell' := hcell
      obtain ⟨v, v0, v1, hv⟩ := hcell p hlt
      clear hcell
      have H := Lib.hid hcell'
      clear hcell'
      have hne' : r ≠ b := fun e => hne e.symm
      go_enter Try.func51, Try.ntmps51
      go_wp2_with fail
      go_quiet (fail)
      go_wp2_with fail
      have e0 : ((w.drewN nq).setCell ⟨r, 1, none⟩ (.int .i64 ((p : Int) + 1))).cell? ⟨r, 0, none⟩ = some (.slice (some ⟨b, off, none⟩) n c) := by go_simp
      have e1 : ((w.drewN nq).setCell ⟨r, 1, none⟩ (.int .i64 ((p : Int) + 1))).cell? ⟨r, 1, none⟩ = some (.int .i64 ((p : Int) + 1)) := by go_simp
      have hG : w.grownBy ((w.drewN nq).setCell ⟨r, 1, none⟩ (.int .i64 ((p : Int) + 1))) (some r) := grownBy_trans (grownBy_drewN nq) (grownBy_set _ _ _ _)
      have e2 := hG.cell hv (by simpa using hne)
      have ef : ((w.drewN nq).setCell ⟨r, 1, none⟩ (.int .i64 ((p : Int) + 1))).frozen? ⟨r, 1, none⟩ = false := by go_simp
      generalize (w.drewN nq).setCell ⟨r, 1, none⟩ (.int .i64 ((p : Int) + 1)) = W1 at *
      have HG := Lib.hid hG
      clear hG
      go_quiet (fail)
      go_wp2_with fail
      go_ret
      exact ⟨v, v0, v1, rfl, grownBy_trans HG.out (grownBy_drewN _), some ⟨b, off, none⟩, n, c, p + 1, e0, e1, ef, hlt, hn', Nat.lt_of_lt_of_le hr HG.out.size, CodeAt.kept (.inr ⟨b, off, rfl, hbr, hbl, H.out⟩) (grownBy_trans HG.out (grownBy_drewN _))⟩
  · have hge : n ≤ p := by omega
    go_enter Try.func51, Try.ntmps51
    go_wp2_with fail
    go_quiet (fail)
    go_wp2_with fail
    go_ret
    exact ⟨0, by omega, by omega, rfl, grownBy_drewN _, a, n, c, p, h0, h1, hf, hp, hn', hr, hc.kept (grownBy_drewN _)⟩

set_option maxRecDepth 100000 in
theorem below_any (r : Nat) (n : Int) (w : World) (h : RdOk w r) (hn : n ≤ 65536) : Calls Try.prog 39 #[.pointer (some ⟨r, 0, none⟩), .int .i64 n] w (NextPost w r 0 (if n ≤ 1 then 0 else n - 1)) := by
  by_cases h1 : n ≤ 1
  · rw [if_pos h1]
    go_enter Try.func39, Try.ntmps39
    go_wp2_with fail
    go_ret
    exact ⟨0, by omega, by omega, rfl, World.grownBy.refl _ _, h⟩
  · rw [if_neg h1]
    by_cases h2 : n ≤ 256
    · have H := Lib.hid h
      clear h
      go_enter Try.func39, Try.ntmps39
      go_wp2_with fail
      refine (next_any _ _ H.out).mono ?_
      rintro e w1 ⟨v, v0, v1, rfl, hg, hr⟩
      have HG := Lib.hid (And.intro hg hr)
      clear hg hr
      go_wp2_with fail
      go_ret
      exact ⟨v % n, Int.emod_nonneg _ (by omega), by have := Int.emod_lt_of_pos v (show 0 < n by omega); omega, rfl, HG.out.1, HG.out.2⟩
    · have H := Lib.hid h
      clear h
      go_enter Try.func39, Try.ntmps39
      go_wp2_with fail
      refine (next_any _ _ H.out).mono ?_
      rintro e w1 ⟨v, v0, v1, rfl, hg, hr⟩
      have HG := Lib.hid (And.intro hg hr)
      clear hg hr
      go_wp2_with fail
      refine (next_any _ _ HG.out.2).mono ?_
      rintro e w2 ⟨u, u0, u1, rfl, hg, hr⟩
      have HG2 := Lib.hid (And.intro hg hr)
      clear hg hr
      go_wp2_with fail
      go_ret
      exact ⟨(v * 256 + u) % n, Int.emod_nonneg _ (by omega), by have := Int.emod_lt_of_pos (v * 256 + u) (show 0 < n by omega); omega, rfl, grownBy_trans HG.out.1 HG2.out.1, HG2.out.2⟩

def OncePost (w : World) (r : Nat) (e : Ending) (w' : World) : Prop :=
  ∃ b : Bool, e = .returned (.bool b) ∧ w.grownBy w' (some r) ∧ RdOk w' r

set_option maxRecDepth 100000 in
theorem once_any (r : Nat) (n : Int) (w : World) (h : RdOk w r) (hn : n ≤ 65536) (h1 : 0 ≤ n) : Calls Try.prog 23 #[.pointer (some ⟨r, 0, none⟩), .int .i64 n] w (OncePost w r) := by
  have H := Lib.hid h
  clear h
  go_enter Try.func23, Try.ntmps23
  go_wp2_with fail
  refine (below_any _ _ _ H.out hn).mono ?_
  rintro e w1 ⟨v, v0, v1, rfl, hg, hr⟩
  have HG := Lib.hid (And.intro hg hr)
  clear hg hr v1
  go_wp2_with fail
  go_ret
  exact ⟨_, rfl, HG.out.1, HG.out.2⟩

def WordRel (w : World) (r : Nat) (x i : Value) (wr : World) : Prop :=
  ∃ (k : Nat) (u : Int), k ≤ 8 ∧ i = .int .i64 k ∧ x = .int .u64 u ∧ (Lit.int .u64 u).wf = true ∧ w.grownBy wr (some r) ∧ RdOk wr r

def WordPost (w : World) (r : Nat) (e : Ending) (w' : World) : Prop :=
  ∃ v : Int, (Lit.int .u64 v).wf = true ∧ e = .returned (.int .u64 v) ∧ w.grownBy w' (some r) ∧ RdOk w' r

set_option maxRecDepth 100000 in
theorem word_any (r : Nat) (w : World) (h : RdOk w r) : Calls Try.prog 56 #[.pointer (some ⟨r, 0, none⟩)] w (WordPost w r) := by
  have H := Lib.hid h
  clear h
  go_enter Try.func56, Try.ntmps56
  go_wp2_with fail
  go_loopw [3, 4] (fun x i wr => WordRel w r x i wr) (fun _ i _ => 8 - (intOf i).toNat)
  case atStart => exact ⟨0, 0, by omega, rfl, rfl, by decide, World.grownBy.refl _ _, H.out⟩
  case round =>
    obtain ⟨k, u, hk, rfl, rfl, hu, hg, hr⟩ := hrel
    have HG := Lib.hid (And.intro hu (And.intro hg hr))
    clear hu hg hr
    by_cases hlt : k < 8
    · go_wp2_with fail
      refine (next_any _ _ HG.out.2.2).mono ?_
      rintro e w1 ⟨v, v0, v1, rfl, hg, hr⟩
      have HG2 := Lib.hid (And.intro hg hr)
      clear hg hr
      go_wp2_with fail
      go_roundw
      case rel => exact ⟨k + 1, _, by omega, by go_num, rfl, wf_bits _ _ _ _, grownBy_trans HG.out.2.1 HG2.out.1, HG2.out.2⟩
      case measure => simp [intOf]; omega
    · go_wp2_with fail
      go_ret
      exact ⟨u, HG.out.1, rfl, HG.out.2.1, HG.out.2.2⟩

def NumPost (w : World) (r : Nat) (e : Ending) (w' : World) : Prop :=
  ∃ v : Int, (Lit.int .i64 v).wf = true ∧ e = .returned (.int .i64 v) ∧ w.grownBy w' (some r) ∧ RdOk w' r

theorem wf_small {v : Int} (h0 : -1000000000000000 ≤ v) (h1 : v ≤ 1000000000000000) : (Lit.int .i64 v).wf = true := by
  simp [Lit.wf, IntKind.min, IntKind.max, IntKind.signed, IntKind.bits]; omega

theorem rem_bd (u d : Int) (hd : 0 < d) : 0 ≤ u % d ∧ u % d < d := ⟨Int.emod_nonneg _ (by omega), Int.emod_lt_of_pos _ hd⟩
theorem wrap_small {v : Int} (h0 : -4000000000000000 ≤ v) (h1 : v ≤ 4000000000000000) : wrap64 v = v := IntWalk.wrap64_in v ⟨by omega, by omega⟩

set_option maxRecDepth 100000 in
theorem near_any (r : Nat) (a b : Int) (w : World) (h : RdOk w r) (hab : a ≤ b) (ha : -1000000000000000 ≤ a) (hb : b ≤ 1000000000000000) :
    Calls Try.prog 50 #[.pointer (some ⟨r, 0, none⟩), .int .i64 a, .int .i64 b] w (NextPost w r a b) := by
  have H := Lib.hid h
  clear h
  go_enter Try.func50, Try.ntmps50
  go_wp2_with fail
  refine (below_any _ _ _ H.out (by omega)).mono ?_
  rintro e w1 ⟨v, v0, v1, rfl, hg, hr⟩
  have HG := Lib.hid (And.intro hg hr)
  clear hg hr v1
  by_cases h0 : v = 0
  · subst h0
    go_wp2_with fail
    go_ret
    exact ⟨a, by omega, by omega, rfl, HG.out.1, HG.out.2⟩
  · by_cases h1 : v = 1
    · subst h1
      go_wp2_with fail
      go_ret
      exact ⟨b, by omega, by omega, rfl, HG.out.1, HG.out.2⟩
    · go_wp2_with fail
      refine (word_any _ _ HG.out.2).mono ?_
      rintro e w2 ⟨u, hu, rfl, hg, hr⟩
      have HG2 := Lib.hid (And.intro hg hr)
      clear hg hr
      have hu' : 0 ≤ u ∧ u ≤ 18446744073709551615 := by simpa [Lit.wf, IntKind.min, IntKind.max, IntKind.signed, IntKind.bits] using hu
      clear hu
      go_wp2_with fail
      go_ret
      have q := rem_bd (u / 2) (b - a + 1) (by omega)
      refine ⟨a + u / 2 % (b - a + 1), by omega, by omega, ret_i ?_, grownBy_trans HG.out.1 HG2.out.1, HG2.out.2⟩
      rw [wrap_small (v := u / 2 % (b - a + 1)) (by omega) (by omega), wrap_small (by omega) (by omega)]

theorem RdOk.kept {w w' : World} {r : Nat} {row : Option Nat} (h : RdOk w r) (hg : w.grownBy w' row) (hne : some r ≠ row) (hold : ∀ k, row = some k → r < k) : RdOk w' r := by
  obtain ⟨a, n, c, p, h0, h1, hf, hp, hn, hr, hc⟩ := h
  refine ⟨a, n, c, p, hg.cell h0 hne, hg.cell h1 hne, ?_, hp, hn, Nat.lt_of_lt_of_le hr hg.size, ?_⟩
  · rw [World.frozen?_of_block (hg.block r hr hne)]; exact hf
  · rcases hc with h | ⟨b, off, ha, hne', hlt, hc⟩
    · exact .inl h
    · refine .inr ⟨b, off, ha, hne', Nat.lt_of_lt_of_le hlt hg.size, fun i hi => ?_⟩
      obtain ⟨v, v0, v1, hv⟩ := hc i hi
      exact ⟨v, v0, v1, hg.cell hv (fun e => by have := hold b e.symm; omega)⟩

theorem RdOk.lt {w : World} {r : Nat} (h : RdOk w r) : r < w.heap.size := by
  obtain ⟨a, n, c, p, h0, h1, hf, hp, hn, hr, hc⟩ := h
  exact hr

theorem RdOk.alloc {w : World} {r : Nat} (h : RdOk w r) (o : Obj) : RdOk (w.alloc o) r := h.kept (World.grownBy_alloc w o none) (by simp) (by simp)

theorem NextPost.num {w : World} {r : Nat} {a b : Int} (ha : -1000000000000000 ≤ a) (hb : b ≤ 1000000000000000) {e : Ending} {w' : World} (h : NextPost w r a b e w') : NumPost w r e w' := by
  obtain ⟨v, v0, v1, he, hg, hr⟩ := h
  exact ⟨v, wf_small (by omega) (by omega), he, hg, hr⟩

/-- A number of a range, or one far off. -/
def Near (lo hi v : Int) : Prop := (Lit.int .i64 v).wf = true ∧ (lo ≤ v ∧ v ≤ hi ∨ v ≤ -1000000000000000000 ∨ 1000000000000000000 ≤ v)
theorem near_mk {lo hi v : Int} (h0 : lo ≤ v) (h1 : v ≤ hi) (hl : -1000000000000000 ≤ lo) (hh : hi ≤ 1000000000000000) : Near lo hi v := ⟨wf_small (by omega) (by omega), .inl ⟨h0, h1⟩⟩
theorem Near.mono {lo hi lo' hi' v : Int} (h : Near lo hi v) (h0 : lo' ≤ lo) (h1 : hi ≤ hi') : Near lo' hi' v := by
  obtain ⟨hw, h⟩ := h
  exact ⟨hw, by omega⟩
def OffPost (w : World) (r : Nat) (lo hi : Int) (e : Ending) (w' : World) : Prop :=
  ∃ v : Int, Near lo hi v ∧ e = .returned (.int .i64 v) ∧ w.grownBy w' (some r) ∧ RdOk w' r

theorem four_cells (w : World) (x0 x1 x2 x3 : Int) (T : TypeId) (lo hi : Int) (h0 : Near lo hi x0) (h1 : Near lo hi x1) (h2 : Near lo hi x2) (h3 : Near lo hi x3) (k : Nat) (hk : k < 4) :
    ∃ z : Int, Near lo hi z ∧ (w.alloc (.cells #[.int .i64 x0, .int .i64 x1, .int .i64 x2, .int .i64 x3] T)).cell? ⟨w.heap.size, k, none⟩ = some (.int .i64 z) := by
  have : k = 0 ∨ k = 1 ∨ k = 2 ∨ k = 3 := by omega
  rcases this with rfl | rfl | rfl | rfl
  · exact ⟨x0, h0, by go_simp⟩
  · exact ⟨x1, h1, by go_simp⟩
  · exact ⟨x2, h2, by go_simp⟩
  · exact ⟨x3, h3, by go_simp⟩

set_option maxRecDepth 100000 in
theorem off_any (r : Nat) (a b : Int) (w : World) (h : RdOk w r) (hab : a ≤ b) (ha : -1000000000000 ≤ a) (hb : b ≤ 1000000000000) :
    Calls Try.prog 31 #[.pointer (some ⟨r, 0, none⟩), .int .i64 a, .int .i64 b] w (OffPost w r (a - 1) (b + 1)) := by
  have H := Lib.hid h
  clear h
  go_enter Try.func31, Try.ntmps31
  go_wp2_with fail
  refine (once_any _ _ _ H.out (by omega) (by omega)).mono ?_
  rintro e w1 ⟨v, rfl, hg, hr⟩
  have hlt := hr.lt
  have HG := Lib.hid (And.intro hg hr)
  clear hg hr
  cases v
  · go_wp2_with fail
    refine (near_any _ _ _ _ HG.out.2 hab (by omega) (by omega)).mono ?_
    rintro e w2 ⟨v, v0, v1, rfl, hg, hr⟩
    have HG2 := Lib.hid (And.intro hg hr)
    clear hg hr
    go_wp2_with fail
    go_ret
    exact ⟨v, near_mk (by omega) (by omega) (by omega) (by omega), rfl, grownBy_trans HG.out.1 HG2.out.1, HG2.out.2⟩
  · go_wp2_with fail
    refine (below_any _ _ _ (HG.out.2.alloc _) (by omega)).mono ?_
    rintro e w2 ⟨v, v0, v1, rfl, hg, hr⟩
    obtain ⟨k, rfl⟩ := Int.eq_ofNat_of_zero_le v0
    have hk : k < 4 := by rw [if_neg (by omega)] at v1; omega
    obtain ⟨z, hz, hcz⟩ := four_cells w1 (a - 1) (b + 1) (-9223372036854775808) 9223372036854775807 2 (a - 1) (b + 1) (near_mk (by omega) (by omega) (by omega) (by omega)) (near_mk (by omega) (by omega) (by omega) (by omega)) ⟨by decide, by omega⟩ ⟨by decide, by omega⟩ k hk
    have hc := hg.cell hcz (by simp; omega)
    have HG2 := Lib.hid (And.intro (grownBy_trans (World.grownBy_alloc _ _ _) hg) (And.intro hr hz))
    clear hg hr hcz v0 v1 hz
    go_wp2_with fail
    go_ret
    exact ⟨z, HG2.out.2.2, rfl, grownBy_trans HG.out.1 HG2.out.1, HG2.out.2.1⟩

set_option maxRecDepth 100000 in
theorem seq_draw (r : Nat) (w : World) (h : RdOk w r) : Calls Try.prog 17 #[.pointer (some ⟨r, 0, none⟩)] w (OffPost w r (-1) 4294967296) := by
  have H := Lib.hid h
  clear h
  go_enter Try.func17, Try.ntmps17
  go_wp2_with fail
  refine (below_any _ _ _ H.out (by omega)).mono ?_
  rintro e w1 ⟨v, v0, v1, rfl, hg, hr⟩
  have HG := Lib.hid (And.intro hg hr)
  clear hg hr v1
  by_cases h0 : v = 0
  · subst h0
    go_wp2_with fail
    refine (off_any _ _ _ _ HG.out.2 (by omega) (by omega) (by omega)).mono ?_
    rintro e w2 ⟨v, hv, rfl, hg, hr⟩
    have HG2 := Lib.hid (And.intro hv (And.intro hg hr))
    clear hv hg hr
    go_wp2_with fail
    go_ret
    exact ⟨v, HG2.out.1.mono (by omega) (by omega), rfl, grownBy_trans HG.out.1 HG2.out.2.1, HG2.out.2.2⟩
  · by_cases h1 : v = 1
    · subst h1
      go_wp2_with fail
      refine (below_any _ _ _ HG.out.2 (by omega)).mono ?_
      rintro e w2 ⟨v, v0, v1, rfl, hg, hr⟩
      rw [if_neg (by omega)] at v1
      have HG2 := Lib.hid (And.intro hg hr)
      clear hg hr
      go_wp2_with fail
      go_ret
      exact ⟨_, near_mk (by omega) (by omega) (by omega) (by omega), rfl, grownBy_trans HG.out.1 HG2.out.1, HG2.out.2⟩
    · go_wp2_with fail
      refine (below_any _ _ _ HG.out.2 (by omega)).mono ?_
      rintro e w2 ⟨v, v0, v1, rfl, hg, hr⟩
      rw [if_neg (by omega)] at v1
      have HG2 := Lib.hid (And.intro hg hr)
      clear hg hr
      go_wp2_with fail
      go_ret
      exact ⟨_, near_mk (by omega) (by omega) (by omega) (by omega), rfl, grownBy_trans HG.out.1 HG2.out.1, HG2.out.2⟩

end Go.Proofs.Ythfhffcimjolgaa
