/- The program's own reading of a packet's body, with what gives up turned into false. -/
import Derived.Test.YtbhbbmocioefnaaRdPk
namespace Go.Proofs.Ytbhbbmocioefnaa
open Go.RowKit

def PClosPost (w : World) (B C : Nat) (t : List UInt8) (big : Bool) (q : Nat) (e : Ending) (w' : World) : Prop :=
  e = .returned (.tuple #[]) ∧ RS w' B t (20 + q) big ∧ w'.cell? ⟨C, 0, none⟩ = some (.int .i64 (timeOf t 4 big)) ∧ w'.cell? ⟨C, 1, none⟩ = some (.string ⟨((t.drop 20).take q).toArray⟩) ∧
    KeptBut (fun k => k = B ∨ k = C) w w'
def PClosPanic (w : World) (B C : Nat) (e : Ending) (w' : World) : Prop := e = .panicked [PE] ∧ KeptBut (fun k => k = B ∨ k = C) w w'

set_option maxRecDepth 100000 in
theorem pclos_ok (B C : Nat) (t : List UInt8) (big : Bool) (q : Nat) (w : World) (h : RS w B t 0 big) (hR : PkR t big q) (hBC : B ≠ C) {x : Int} {y : ByteArray}
    (h0 : w.cell? ⟨C, 0, none⟩ = some (.int .i64 x)) (h1 : w.cell? ⟨C, 1, none⟩ = some (.string y)) (g0 : w.frozen? ⟨C, 0, none⟩ = false) (g1 : w.frozen? ⟨C, 1, none⟩ = false) :
    Calls Try.prog 63 #[.pointer (some ⟨B, 0, none⟩), .pointer (some ⟨C, 0, none⟩)] w (PClosPost w B C t big q) := by
  have HR := Lib.hid (And.intro h hR)
  have HC := Lib.hid (And.intro h0 (And.intro h1 (And.intro g0 g1)))
  clear h hR h0 h1 g0 g1
  go_enter Try.func63, Try.ntmps63
  go_wp2_with fail
  refine (packet_yes B t big q _ HR.out.1 HR.out.2).mono ?_
  rintro e w1 ⟨rfl, hg, hr⟩
  have hne : some C ≠ some B := by simpa using fun e => hBC e.symm
  have c0 := hg.cell HC.out.1 hne
  have c1 := hg.cell HC.out.2.1 hne
  have f0 := grown_frozen hg HC.out.1 hne HC.out.2.2.1
  have f1 := grown_frozen hg HC.out.2.1 hne HC.out.2.2.2
  have HG := Lib.hid (And.intro hg hr)
  clear hg hr hne
  go_wp2_with fail
  go_end0
  have hW : w1.grownBy ((w1.setCell ⟨C, 0, none⟩ (.int .i64 (timeOf t 4 big))).setCell ⟨C, 1, none⟩ (.string ⟨((t.drop 20).take q).toArray⟩)) (some C) := grownBy_trans (grownBy_set _ _ _ _) (grownBy_set _ _ _ _)
  refine ⟨rfl, HG.out.2.other hW (by simpa using hBC), by go_simp, by go_simp, ?_⟩
  exact (KeptBut.of HG.out.1 (fun k e _ => by simp at e; exact .inl e.symm)).trans (KeptBut.of hW (fun k e _ => by simp at e; exact .inr e.symm))

set_option maxRecDepth 100000 in
theorem pclos_panic (B C : Nat) (t : List UInt8) (big : Bool) (w : World) (h : RS w B t 0 big) (hN : ∀ q, ¬ PkR t big q) (hl6 : t.length ≤ 1000000) :
    Calls Try.prog 63 #[.pointer (some ⟨B, 0, none⟩), .pointer (some ⟨C, 0, none⟩)] w (PClosPanic w B C) := by
  have HR := Lib.hid (And.intro h hN)
  have HL := Lib.hid hl6
  clear h hN
  go_enter Try.func63, Try.ntmps63
  go_wp2_with fail
  refine (packet_no B t big _ HR.out.1 HR.out.2 HL.out).mono ?_
  rintro e w1 ⟨rfl, hg⟩
  exact ⟨rfl, rfl, KeptBut.of hg (fun k e _ => by simp at e; exact .inl e.symm)⟩

def PFinPost (w : World) (B C : Nat) (t : List UInt8) (big : Bool) (q : Nat) (e : Ending) (w' : World) : Prop :=
  e = .returned (.bool true) ∧ RS w' B t (20 + q) big ∧ w'.cell? ⟨C, 0, none⟩ = some (.int .i64 (timeOf t 4 big)) ∧ w'.cell? ⟨C, 1, none⟩ = some (.string ⟨((t.drop 20).take q).toArray⟩) ∧
    KeptBut (fun k => k = B ∨ k = C) w w'
def PFinNot (w : World) (B C : Nat) (e : Ending) (w' : World) : Prop := e = .returned (.bool false) ∧ KeptBut (fun k => k = B ∨ k = C) w w'

set_option maxRecDepth 100000 in
theorem pfin_ok (B C : Nat) (t : List UInt8) (big : Bool) (q : Nat) (w : World) (h : RS w B t 0 big) (hR : PkR t big q) (hBC : B ≠ C) {x : Int} {y : ByteArray}
    (h0 : w.cell? ⟨C, 0, none⟩ = some (.int .i64 x)) (h1 : w.cell? ⟨C, 1, none⟩ = some (.string y)) (g0 : w.frozen? ⟨C, 0, none⟩ = false) (g1 : w.frozen? ⟨C, 1, none⟩ = false) :
    Calls Try.prog 60 #[.func (Fn.func 63) #[] #[.pointer (some ⟨B, 0, none⟩), .pointer (some ⟨C, 0, none⟩)]] w (PFinPost w B C t big q) := by
  have hB := World.block_lt_of_cell? w ⟨B, 1, none⟩ h.c1
  have hC := World.block_lt_of_cell? w ⟨C, 1, none⟩ h1
  have HR := Lib.hid (And.intro h hR)
  have HC := Lib.hid (And.intro h0 (And.intro h1 (And.intro g0 g1)))
  clear h hR h0 h1 g0 g1
  have hmf : ∀ (fn : Fn) (first cap : Array Value) (w : World), (Instr.makeFunc fn first cap).run Try.prog w = .ok (.func fn first cap) w := fun _ _ _ _ => rfl
  go_enter_defers Try.func60, Try.ntmps60
  go_wp2_with fail
  have hA : w.grownBy (w.alloc (.cells #[.bool false] 4)) none := World.grownBy_alloc _ _ _
  refine (pclos_ok B C t big q _ (HR.out.1.kept hA) HR.out.2 hBC (hA.cell HC.out.1 (by simp)) (hA.cell HC.out.2.1 (by simp)) (grown_frozen hA HC.out.1 (by simp) HC.out.2.2.1) (grown_frozen hA HC.out.2.1 (by simp) HC.out.2.2.2)).mono ?_
  rintro e w1 ⟨rfl, hr, k0, k1, hk⟩
  have d0 : w1.cell? ⟨w.heap.size, 0, none⟩ = some (.bool false) := hk.cell (by go_simp) (by simp; omega)
  have df : w1.frozen? ⟨w.heap.size, 0, none⟩ = false := hk.frozen (a := ⟨w.heap.size, 0, none⟩) (v := .bool false) (by go_simp) (by simp; omega) (by go_simp)
  have HK := Lib.hid (And.intro hr (And.intro k0 (And.intro k1 ((KeptBut.of hA (fun k e _ => by cases e)).trans hk))))
  clear hr k0 k1 hk
  go_wp2_with fail
  refine leaves_cons (f := 80) (args := #[.pointer (some ⟨w.heap.size, 0, none⟩)]) (by simp) (by simp [go_sem]) ?_
  refine (catch_idle ⟨w.heap.size, 0, none⟩ _).mono ?_
  rintro e u' w'' ⟨rfl, rfl, rfl⟩
  have hW : w1.grownBy (w1.setCell ⟨w.heap.size, 0, none⟩ (.bool true)) (some w.heap.size) := grownBy_set _ _ _ _
  simp [Leaves, settle, results, Try.results60, go_sem, d0]
  exact ⟨rfl, HK.out.1.other hW (by simp; omega), hW.cell HK.out.2.1 (by simp; omega), hW.cell HK.out.2.2.1 (by simp; omega), ⟨HK.out.2.2.2.os, HK.out.2.2.2.tape, HK.out.2.2.2.output, Nat.le_trans HK.out.2.2.2.size hW.size, fun k hk hn => (hW.block k (Nat.lt_of_lt_of_le hk HK.out.2.2.2.size) (by simp; omega)).trans (HK.out.2.2.2.block k hk hn)⟩⟩

set_option maxRecDepth 100000 in
theorem pfin_not (B C : Nat) (t : List UInt8) (big : Bool) (w : World) (h : RS w B t 0 big) (hN : ∀ q, ¬ PkR t big q) (hl6 : t.length ≤ 1000000) (hC : C < w.heap.size) :
    Calls Try.prog 60 #[.func (Fn.func 63) #[] #[.pointer (some ⟨B, 0, none⟩), .pointer (some ⟨C, 0, none⟩)]] w (PFinNot w B C) := by
  have hB := World.block_lt_of_cell? w ⟨B, 1, none⟩ h.c1
  have HR := Lib.hid (And.intro h hN)
  have HL := Lib.hid hl6
  clear h hN
  have hmf : ∀ (fn : Fn) (first cap : Array Value) (w : World), (Instr.makeFunc fn first cap).run Try.prog w = .ok (.func fn first cap) w := fun _ _ _ _ => rfl
  go_enter_defers Try.func60, Try.ntmps60
  go_wp2_with fail
  have hA : w.grownBy (w.alloc (.cells #[.bool false] 4)) none := World.grownBy_alloc _ _ _
  refine (pclos_panic B C t big _ (HR.out.1.kept hA) HR.out.2 HL.out).mono ?_
  rintro e w1 ⟨rfl, hk⟩
  have d0 : w1.cell? ⟨w.heap.size, 0, none⟩ = some (.bool false) := hk.cell (by go_simp) (by simp; omega)
  have df : w1.frozen? ⟨w.heap.size, 0, none⟩ = false := hk.frozen (a := ⟨w.heap.size, 0, none⟩) (v := .bool false) (by go_simp) (by simp; omega) (by go_simp)
  have HK := Lib.hid ((KeptBut.of hA (fun k e _ => by cases e)).trans hk)
  clear hk
  refine leaves_cons (f := 80) (args := #[.pointer (some ⟨w.heap.size, 0, none⟩)]) (by simp) (by simp [go_sem]) ?_
  refine (catch_panicking ⟨w.heap.size, 0, none⟩ false 9 _ [] _ d0 df).mono ?_
  rintro e u' w'' ⟨rfl, rfl, rfl⟩
  have hW : w1.grownBy (w1.setCell ⟨w.heap.size, 0, none⟩ (.bool false)) (some w.heap.size) := grownBy_set _ _ _ _
  simp [Leaves, settle, results, Try.results60, go_sem, d0]
  exact ⟨rfl, ⟨HK.out.os, HK.out.tape, HK.out.output, Nat.le_trans HK.out.size hW.size, fun k hk hn => (hW.block k (Nat.lt_of_lt_of_le hk HK.out.size) (by simp; omega)).trans (HK.out.block k hk hn)⟩⟩

/-- The first block of a text, as both tell it: its values. -/
def PReadYes (w : World) (t : List UInt8) (big : Bool) (q : Nat) (e : Ending) (w' : World) : Prop :=
  e = .returned (.tuple #[.agg #[.int .i64 (timeOf t 4 big), .string ⟨((t.drop 20).take q).toArray⟩], .bool true]) ∧ w.grownBy w' none
def PReadNo (w : World) (e : Ending) (w' : World) : Prop :=
  e = .returned (.tuple #[.agg #[.int .i64 0, .string ⟨#[]⟩], .bool false]) ∧ w.grownBy w' none

/-- What ReadBlock makes ahead of its reading. -/
structure PMade3 (w : World) (t : List UInt8) (big : Bool) (W3 : World) : Prop where
  g : w.grownBy W3 none
  r : RS W3 (w.heap.size + 1) t 0 big
  k0 : W3.cell? ⟨w.heap.size + 1 + 1, 0, none⟩ = some (.int .i64 0)
  k1 : W3.cell? ⟨w.heap.size + 1 + 1, 1, none⟩ = some (.string ⟨#[]⟩)
  kf0 : W3.frozen? ⟨w.heap.size + 1 + 1, 0, none⟩ = false
  kf1 : W3.frozen? ⟨w.heap.size + 1 + 1, 1, none⟩ = false
  r0 : W3.cell? ⟨w.heap.size, 0, none⟩ = some (.int .i64 0)
  r1 : W3.cell? ⟨w.heap.size, 1, none⟩ = some (.string ⟨#[]⟩)
  rf0 : W3.frozen? ⟨w.heap.size, 0, none⟩ = false
  rf1 : W3.frozen? ⟨w.heap.size, 1, none⟩ = false
  hsz : w.heap.size + 1 + 1 < W3.heap.size
theorem pmade3 (w : World) (t : List UInt8) (big : Bool) (hl : t.length ≤ 1000000000000) : PMade3 w t big (((w.alloc (.cells #[.int .i64 0, .string ⟨#[]⟩] 55)).alloc (.cells #[.string ⟨t.toArray⟩, .int .i64 0, .bool big] 86)).alloc (.cells #[.int .i64 0, .string ⟨#[]⟩] 55)) :=
  ⟨grownBy_trans (World.grownBy_alloc _ _ _) (grownBy_trans (World.grownBy_alloc _ _ _) (World.grownBy_alloc _ _ _)), ⟨by go_simp, by go_simp, by go_simp, by go_simp, Nat.zero_le _, hl⟩,
    by go_simp, by go_simp, by go_simp, by go_simp, by go_simp, by go_simp, by go_simp, by go_simp, by simp⟩

set_option maxRecDepth 100000 in
theorem pread_yes (t : List UInt8) (big : Bool) (q : Nat) (w : World) (hR : PkR t big q) (hl : t.length ≤ 1000000000000) :
    Calls Try.prog 34 #[.string ⟨t.toArray⟩, .bool big] w (PReadYes w t big q) := by
  have hmf : ∀ (fn : Fn) (first cap : Array Value) (w : World), (Instr.makeFunc fn first cap).run Try.prog w = .ok (.func fn first cap) w := fun _ _ _ _ => rfl
  have HR := Lib.hid hR
  clear hR
  go_enter Try.func34, Try.ntmps34
  go_wp2_with fail
  obtain ⟨hg3, hr3, k0, k1, kf0, kf1, r0, r1, rf0, rf1, hsz⟩ := pmade3 w t big (by omega)
  generalize ((w.alloc (.cells #[.int .i64 0, .string ⟨#[]⟩] 55)).alloc (.cells #[.string ⟨t.toArray⟩, .int .i64 0, .bool big] 86)).alloc (.cells #[.int .i64 0, .string ⟨#[]⟩] 55) = W3 at *
  refine (pfin_ok _ _ t big q _ hr3 HR.out (by omega) k0 k1 kf0 kf1).mono ?_
  rintro e w4 ⟨rfl, hr, c0, c1, hk⟩
  have b1 := hr.c1
  have s0 := hk.cell r0 (by simp; omega)
  have s1 := hk.cell r1 (by simp; omega)
  have sf0 := hk.frozen r0 (by simp; omega) rf0
  have sf1 := hk.frozen r1 (by simp; omega) rf1
  have HG := Lib.hid (KeptBut.grown hg3 hk (by simp; omega))
  clear hr hk hr3 k0 k1 kf0 kf1 r0 r1 rf0 rf1 hg3 hsz
  go_wp2_with fail
  have hW : w4.grownBy ((w4.setCell ⟨w.heap.size, 0, none⟩ (.int .i64 (timeOf t 4 big))).setCell ⟨w.heap.size, 1, none⟩ (.string ⟨((t.drop 20).take q).toArray⟩)) (some w.heap.size) := grownBy_trans (grownBy_set _ _ _ _) (grownBy_set _ _ _ _)
  exact bodyPost_ret (v := .tuple #[.agg #[.int .i64 (timeOf t 4 big), .string ⟨((t.drop 20).take q).toArray⟩], .bool true]) (by simp [results, Try.results34, go_sem, s0, s1]) rfl ⟨rfl, grownBy_new HG.out hW (Nat.le_refl _)⟩

set_option maxRecDepth 100000 in
theorem pread_no (t : List UInt8) (big : Bool) (w : World) (hN : ∀ q, ¬ PkR t big q) (hl : t.length ≤ 1000000) :
    Calls Try.prog 34 #[.string ⟨t.toArray⟩, .bool big] w (PReadNo w) := by
  have hmf : ∀ (fn : Fn) (first cap : Array Value) (w : World), (Instr.makeFunc fn first cap).run Try.prog w = .ok (.func fn first cap) w := fun _ _ _ _ => rfl
  have HN := Lib.hid hN
  clear hN
  go_enter Try.func34, Try.ntmps34
  go_wp2_with fail
  obtain ⟨hg3, hr3, k0, k1, kf0, kf1, r0, r1, rf0, rf1, hsz⟩ := pmade3 w t big (by omega)
  generalize ((w.alloc (.cells #[.int .i64 0, .string ⟨#[]⟩] 55)).alloc (.cells #[.string ⟨t.toArray⟩, .int .i64 0, .bool big] 86)).alloc (.cells #[.int .i64 0, .string ⟨#[]⟩] 55) = W3 at *
  refine (pfin_not _ _ t big _ hr3 HN.out hl hsz).mono ?_
  rintro e w4 ⟨rfl, hk⟩
  have s0 := hk.cell r0 (by simp; omega)
  have s1 := hk.cell r1 (by simp; omega)
  have sf0 := hk.frozen r0 (by simp; omega) rf0
  have sf1 := hk.frozen r1 (by simp; omega) rf1
  have hG := KeptBut.grown hg3 hk (by simp; omega)
  have HG := Lib.hid hG
  clear hG hk hr3 k0 k1 kf0 kf1 r0 r1 rf0 rf1 hg3 hsz
  go_wp2_with fail
  have hW : w4.grownBy ((w4.setCell ⟨w.heap.size, 0, none⟩ (.int .i64 0)).setCell ⟨w.heap.size, 1, none⟩ (.string ⟨#[]⟩)) (some w.heap.size) := grownBy_trans (grownBy_set _ _ _ _) (grownBy_set _ _ _ _)
  exact bodyPost_ret (v := .tuple #[.agg #[.int .i64 0, .string ⟨#[]⟩], .bool false]) (by simp [results, Try.results34, go_sem, s0, s1]) rfl ⟨rfl, grownBy_new HG.out hW (Nat.le_refl _)⟩

end Go.Proofs.Ytbhbbmocioefnaa
