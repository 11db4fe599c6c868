/- The drawing of a block, and the padding of a text. -/
import Derived.Test.YtbhbbmocioefnaaRdBlk
namespace Go.Proofs.Ytbhbbmocioefnaa
open Go.RowKit

def padN (n : Nat) : Nat := (4 - n % 4) % 4
def padL (l : List UInt8) : List UInt8 := l ++ List.replicate (padN l.length) 0
theorem padL_len (l : List UInt8) : (padL l).length % 4 = 0 ∧ (padL l).length ≤ l.length + 3 := by
  unfold padL padN
  rw [List.length_append, List.length_replicate]
  omega

def PadRel (l : List UInt8) (s : Value) : Prop := ∃ j : Nat, j ≤ padN l.length ∧ s = .string ⟨(l ++ List.replicate j 0).toArray⟩
def padLen : Value → Nat | .string s => s.size | _ => 0

set_option maxRecDepth 100000 in
theorem pad_any (l : List UInt8) (w : World) (hl : l.length ≤ 1000000000000) : Calls Try.prog 41 #[.string ⟨l.toArray⟩] w fun e w' => e = .returned (.string ⟨(padL l).toArray⟩) ∧ w = w' := by
  go_enter Try.func41, Try.ntmps41
  go_wp2_with fail
  go_loop [0] (fun s => PadRel l s) (fun s => l.length + 4 - padLen s)
  case atStart => exact ⟨0, Nat.zero_le _, by simp⟩
  case round =>
    obtain ⟨j, hj, rfl⟩ := hrel
    have hp : padN l.length ≤ 3 := by unfold padN; omega
    by_cases hlt : j < padN l.length
    · have h4 : ((l.length : Int) + (j : Int)) % 4 ≠ 0 := by unfold padN at hlt; omega
      have h4' : (((l.length : Int) + (j : Int)) % 4 != 0) = true := by simpa using h4
      clear h4
      have HA := Lib.hid (ba_append (l ++ List.replicate j 0) [0])
      go_wp2
      go_round
      case rel =>
        refine ⟨j + 1, hlt, ?_⟩
        rw [show l ++ List.replicate (j + 1) 0 = (l ++ List.replicate j 0) ++ [0] from by rw [List.replicate_succ', List.append_assoc], ← HA.out]
      case measure =>
        simp only [padLen, ByteArray.size_append, str_size, List.length_append, List.length_replicate]
        simp
        omega
    · obtain rfl : j = padN l.length := by omega
      have h4' : (((l.length : Int) + (padN l.length : Int)) % 4 != 0) = false := by unfold padN; simp; omega
      go_wp2
      go_ret
      exact ⟨ret_ba (by rw [padL]), rfl⟩

theorem RdOk.other2 {w w' : World} {r k : Nat} (h : RdOk w r) (hg : w.grownBy w' (some k)) (hne : some r ≠ some k) (hrk : r < k) : RdOk w' r := h.kept hg hne (fun i e => by cases e; exact hrk)

def BlockDPost (w : World) (r : Nat) (e : Ending) (w' : World) : Prop :=
  ∃ (k : Int) (l : List UInt8), (Lit.int .i64 k).wf = true ∧ l.length ≤ 12 ∧ e = .returned (.agg #[.int .i64 k, .string ⟨l.toArray⟩]) ∧ w.grownBy w' (some r) ∧ RdOk w' r

/-- Two cells of a block of the call's own, behind what a reader's step has done. -/
structure Two (w : World) (E : Nat) (x y : Value) : Prop where
  a : w.cell? ⟨E, 0, none⟩ = some x
  b : w.cell? ⟨E, 1, none⟩ = some y
  f : w.frozen? ⟨E, 0, none⟩ = false
  g : w.frozen? ⟨E, 1, none⟩ = false
theorem Two.kept {w w' : World} {E : Nat} {x y : Value} {row : Option Nat} (h : Two w E x y) (hg : w.grownBy w' row) (hne : some E ≠ row) : Two w' E x y :=
  ⟨hg.cell h.a hne, hg.cell h.b hne, grown_frozen hg h.a hne h.f, grown_frozen hg h.b hne h.g⟩
theorem Two.lt {w : World} {E : Nat} {x y : Value} (h : Two w E x y) : E < w.heap.size := World.block_lt_of_cell? w ⟨E, 0, none⟩ h.a
theorem two_new (w : World) (x y : Value) (T : TypeId) : Two (w.alloc (.cells #[x, y] T)) w.heap.size x y := ⟨by go_simp, by go_simp, by go_simp, by go_simp⟩

set_option maxRecDepth 100000 in
set_option maxHeartbeats 1000000 in
theorem block_draw (r : Nat) (w : World) (h : RdOk w r) : Calls Try.prog 30 #[.pointer (some ⟨r, 0, none⟩)] w (BlockDPost w r) := by
  have hlt := h.lt
  have H := Lib.hid (And.intro (h.alloc (.cells #[.int .i64 0, .string ⟨#[]⟩] 34)) (And.intro (two_new w (.int .i64 0) (.string ⟨#[]⟩) 34) (World.grownBy_alloc w (.cells #[.int .i64 0, .string ⟨#[]⟩] 34) (some r))))
  clear h
  go_enter Try.func30, Try.ntmps30
  go_wp2_with fail
  refine (below_any _ _ _ H.out.1 (by omega)).mono ?_
  rintro e w1 ⟨k, k0, k1, rfl, hg, hr⟩
  have hk : (Lit.int .i64 k).wf = true := wf_small (by omega) (by rw [if_neg (by omega)] at k1; omega)
  have H1 := Lib.hid (And.intro hr (And.intro (H.out.2.1.kept hg (by simp; omega)) (And.intro (grownBy_trans H.out.2.2 hg) hk)))
  clear hg hr hk k0 k1
  go_wp2_with fail
  refine (bytes_any _ 9 _ H1.out.1 (by omega)).mono ?_
  rintro e w2 ⟨l, hl, rfl, hg, hr⟩
  have H2 := Lib.hid (And.intro hr (And.intro (H1.out.2.1.kept hg (by simp; omega)) (grownBy_trans H1.out.2.2.1 hg)))
  clear hg hr
  go_wp2_with fail
  refine (pad_any l _ (by omega)).mono ?_
  rintro e w' ⟨rfl, rfl⟩
  have hpl : (padL l).length ≤ 12 := by have := (padL_len l).2; omega
  generalize padL l = p at *
  go_wp2_with fail
  have hC : w.heap.size < w2.heap.size := H2.out.2.1.lt
  have H3 := Lib.hid (And.intro (H2.out.1.alloc (.cells #[.int .i64 k, .string ⟨p.toArray⟩] 34)) (And.intro (H2.out.2.1.kept (World.grownBy_alloc w2 (.cells #[.int .i64 k, .string ⟨p.toArray⟩] 34) none) (by simp)) (And.intro (two_new w2 (.int .i64 k) (.string ⟨p.toArray⟩) 34) (grownBy_trans H2.out.2.2 (World.grownBy_alloc w2 (.cells #[.int .i64 k, .string ⟨p.toArray⟩] 34) (some r))))))
  refine (below_any _ _ _ H3.out.1 (by omega)).mono ?_
  rintro e w3 ⟨v, v0, v1, rfl, hg, hr⟩
  have hc := H3.out.2.2.1.kept hg (by simp; omega)
  have H4 := Lib.hid (And.intro hr (And.intro (H3.out.2.1.kept hg (by simp; omega)) (And.intro hc (grownBy_trans H3.out.2.2.2 hg))))
  clear hg hr hc v1
  by_cases h18 : v = 18
  · subst h18
    go_wp2_with fail
    refine (off_any _ _ _ _ H4.out.1 (by omega) (by omega) (by omega)).mono ?_
    rintro e w4 ⟨x, hx, rfl, hg, hr⟩
    have hC4 := H4.out.2.2.1.kept hg (by simp; omega)
    have hE4 := H4.out.2.1.kept hg (by simp; omega)
    have c0 := hC4.a
    have c1 := hC4.b
    have cf := hC4.f
    have cg := hC4.g
    have e0 := hE4.a
    have e1 := hE4.b
    have ef := hE4.f
    have eg := hE4.g
    have hS : w4.grownBy (w4.setCell ⟨w2.heap.size, 0, none⟩ (.int .i64 x)) (some w2.heap.size) := grownBy_set _ _ _ _
    have hW : (w4.setCell ⟨w2.heap.size, 0, none⟩ (.int .i64 x)).grownBy (((w4.setCell ⟨w2.heap.size, 0, none⟩ (.int .i64 x)).setCell ⟨w.heap.size, 0, none⟩ (.int .i64 x)).setCell ⟨w.heap.size, 1, none⟩ (.string ⟨(p).toArray⟩)) (some w.heap.size) := grownBy_trans (grownBy_set _ _ _ _) (grownBy_set _ _ _ _)
    have HF := Lib.hid (And.intro (hx.1) (And.intro (grown_other (grown_other (grownBy_trans H4.out.2.2.2 hg) hS (by omega)) hW (Nat.le_refl _)) ((hr.other2 hS (by simp; omega) (by omega)).other2 hW (by simp; omega) hlt)))
    clear hg hr hC4 hE4 hS hW hx
    go_wp2_with fail
    exact bodyPost_ret (v := .agg #[.int .i64 x, .string ⟨(p).toArray⟩]) (by simp [results, Try.results30, go_sem, e0, e1]) rfl ⟨x, p, HF.out.1, hpl, rfl, HF.out.2.1, HF.out.2.2⟩
  · by_cases h19 : v = 19
    · subst h19
      clear h18
      go_wp2_with fail
      refine (bytes_any _ 6 _ H4.out.1 (by omega)).mono ?_
      rintro e w4 ⟨m, hm, rfl, hg, hr⟩
      have hC4 := H4.out.2.2.1.kept hg (by simp; omega)
      have hE4 := H4.out.2.1.kept hg (by simp; omega)
      have c0 := hC4.a
      have c1 := hC4.b
      have cf := hC4.f
      have cg := hC4.g
      have e0 := hE4.a
      have e1 := hE4.b
      have ef := hE4.f
      have eg := hE4.g
      have hS : w4.grownBy (w4.setCell ⟨w2.heap.size, 1, none⟩ (.string ⟨m.toArray⟩)) (some w2.heap.size) := grownBy_set _ _ _ _
      have hW : (w4.setCell ⟨w2.heap.size, 1, none⟩ (.string ⟨m.toArray⟩)).grownBy (((w4.setCell ⟨w2.heap.size, 1, none⟩ (.string ⟨m.toArray⟩)).setCell ⟨w.heap.size, 0, none⟩ (.int .i64 k)).setCell ⟨w.heap.size, 1, none⟩ (.string ⟨(m).toArray⟩)) (some w.heap.size) := grownBy_trans (grownBy_set _ _ _ _) (grownBy_set _ _ _ _)
      have HF := Lib.hid (And.intro (H1.out.2.2.2) (And.intro (grown_other (grown_other (grownBy_trans H4.out.2.2.2 hg) hS (by omega)) hW (Nat.le_refl _)) ((hr.other2 hS (by simp; omega) (by omega)).other2 hW (by simp; omega) hlt)))
      clear hg hr hC4 hE4 hS hW 
      go_wp2_with fail
      exact bodyPost_ret (v := .agg #[.int .i64 k, .string ⟨(m).toArray⟩]) (by simp [results, Try.results30, go_sem, e0, e1]) rfl ⟨k, m, HF.out.1, by omega, rfl, HF.out.2.1, HF.out.2.2⟩
    · have hC4 := H4.out.2.2.1
      have hE4 := H4.out.2.1
      have c0 := hC4.a
      have c1 := hC4.b
      have e0 := hE4.a
      have e1 := hE4.b
      have ef := hE4.f
      have eg := hE4.g
      have hW : w3.grownBy ((w3.setCell ⟨w.heap.size, 0, none⟩ (.int .i64 k)).setCell ⟨w.heap.size, 1, none⟩ (.string ⟨p.toArray⟩)) (some w.heap.size) := grownBy_trans (grownBy_set _ _ _ _) (grownBy_set _ _ _ _)
      have HF := Lib.hid (And.intro H1.out.2.2.2 (And.intro (grown_other H4.out.2.2.2 hW (Nat.le_refl _)) (H4.out.1.other2 hW (by simp; omega) hlt)))
      clear hC4 hE4 hW
      go_wp2_with fail
      exact bodyPost_ret (v := .agg #[.int .i64 k, .string ⟨p.toArray⟩]) (by simp [results, Try.results30, go_sem, e0, e1]) rfl ⟨k, p, HF.out.1, hpl, rfl, HF.out.2.1, HF.out.2.2⟩

def DrawBPost (w : World) (e : Ending) (w' : World) : Prop :=
  ∃ (k : Int) (l : List UInt8) (b : Bool), (Lit.int .i64 k).wf = true ∧ l.length ≤ 12 ∧ e = .returned (.tuple #[.agg #[.int .i64 k, .string ⟨l.toArray⟩], .bool b]) ∧ w.grownBy w' none

theorem RdOk.drew {w : World} {r : Nat} (h : RdOk w r) : RdOk w.drew r := h.kept (grownBy_drew (r := none)) (by simp) (by simp)

end Go.Proofs.Ytbhbbmocioefnaa
