/- For every code the law FnOneBitSums answers true and leaves its argument as it was; no condition. -/
import Derived.Test.YthonmghfgcibhaaRows
import Derived.Test.YthonmghfgcibhaaDraw
import Derived.Test.YthonmghfgcibhaaTcE
import Derived.Test.YthonmghfgcibhaaTcZ
import Derived.WalkKit
import Derived.ProofKit
import Derived.OpenShut
import Derived.ShutString
import Derived.ChangeOld
import Derived.Below
import Derived.Lib.SmallJoins
namespace Go.Proofs.Ythonmghfgcibhaa.fnOneBitSums
open Go.ChangeShapes Go.WideShapes Go.ChangeAt Go.RowKit Go.Joins
open Go.ChangeMaps (open_string shut_string)
set_option linter.unusedVariables false

theorem own : ownKnob Try.prog.godebug = none := by kernel_rfl
theorem laidOut : laidOutB Try.prog = true := by kernel_rfl


def IsRow (k : IntKind) (w : World) (a : Option Addr) (len cap : Nat) (zs : List Int) : Prop :=
  (a = none ∧ len = 0 ∧ cap = 0 ∧ zs = []) ∨
  ∃ x, a = some x ∧ len ≤ cap ∧ cap ≤ maxLen ∧ zs.length = cap ∧ (∀ i, i < zs.length → w.cell? (x.add i) = some (.int k (zs.getD i 0))) ∧ ∀ n ∈ zs, (Lit.int k n).wf = true

def ObRel (w : World) (T : List UInt8) (i : Value) (wr : World) : Prop := ∃ j : Nat, j ≤ 8 * T.length ∧ i = .int .i64 (j : Int) ∧ w.grownBy wr none

set_option maxRecDepth 100000 in
set_option maxHeartbeats 4000000 in
theorem walk (a0 : Option Addr) (len0 cap0 : Nat) (z0 : List Int) (w : World) (w0 : IsRow .u8 w a0 len0 cap0 z0) :
    Calls Try.prog 5 #[.slice a0 len0 cap0] w fun e w' => e = .returned (.bool true) ∧ Below w.heap.size w w' := by
  have hc := code_of w0
  clear w0
  have HC := Lib.hid hc
  clear hc
  by_cases hbig : 1048576 < len0
  · go_enter Try.func5, Try.ntmps5
    go_wp2_with (go_at_call 6; refine (big_any _ _ _ _).mono ?_; rintro e w' ⟨rfl, rfl⟩)
    go_ret
    exact ⟨rfl, Below.refl _ _⟩
  · go_enter Try.func5, Try.ntmps5
    go_wp2_with (go_at_call 6; refine (big_any _ _ _ _).mono ?_; rintro e w' ⟨rfl, rfl⟩)
    refine (draw_tcpb _ _ _ _ HC.out).mono ?_
    rintro e v0 ⟨b, f, o, s, k, g, n, a, c, l, d, rfl, hl, hg, hrow⟩
    have H1 := Lib.hid (And.intro (gA hg (.cells #[.int .i64 f, .int .i64 o, .int .i64 s, .int .i64 k, .int .i64 g, .int .i64 n, .slice a l.length c, .string ⟨d.toArray⟩] 26)) (And.intro (Bx.new v0 26 #[.int .i64 f, .int .i64 o, .int .i64 s, .int .i64 k, .int .i64 g, .int .i64 n, .slice a l.length c, .string ⟨d.toArray⟩]) (hrow.kept (World.grownBy_alloc v0 (.cells #[.int .i64 f, .int .i64 o, .int .i64 s, .int .i64 k, .int .i64 g, .int .i64 n, .slice a l.length c, .string ⟨d.toArray⟩] 26) none))))
    have HL := Lib.hid hl
    clear hg hrow hl
    go_upto_region 4 with fail
    generalize v0.heap.size = B0 at *
    generalize v0.alloc (.cells #[.int .i64 f, .int .i64 o, .int .i64 s, .int .i64 k, .int .i64 g, .int .i64 n, .slice a l.length c, .string ⟨d.toArray⟩] 26) = w1 at *
    obtain ⟨T, hT⟩ : ∃ T, tcpL 167772161 b f o s k g n l d = T := ⟨_, rfl⟩
    have HT := Lib.hid hT
    clear hT
    have b0 := H1.out.2.1.c 0 (x := .int .i64 f) rfl
    have b1 := H1.out.2.1.c 1 (x := .int .i64 o) rfl
    have b2 := H1.out.2.1.c 2 (x := .int .i64 s) rfl
    have b3 := H1.out.2.1.c 3 (x := .int .i64 k) rfl
    have b4 := H1.out.2.1.c 4 (x := .int .i64 g) rfl
    have b5 := H1.out.2.1.c 5 (x := .int .i64 n) rfl
    have b6 := H1.out.2.1.c 6 (x := .slice a l.length c) rfl
    have b7 := H1.out.2.1.c 7 (x := .string ⟨d.toArray⟩) rfl
    have lb := H1.out.2.1.lt
    go_wp2_with fail
    refine (tcp_impl 167772161 b f o s k g n a c l d _ H1.out.2.2).mono ?_
    rintro e w2 ⟨rfl, hg⟩
    rw [HT.out]
    have H2 := Lib.hid (And.intro (grownBy_trans H1.out.1 hg) (And.intro (H1.out.2.1.keep hg) (H1.out.2.2.kept hg)))
    clear hg
    clear b0 b1 b2 b3 b4 b5 b6 b7 lb
    have b0 := H2.out.2.1.c 0 (x := .int .i64 f) rfl
    have b1 := H2.out.2.1.c 1 (x := .int .i64 o) rfl
    have b2 := H2.out.2.1.c 2 (x := .int .i64 s) rfl
    have b3 := H2.out.2.1.c 3 (x := .int .i64 k) rfl
    have b4 := H2.out.2.1.c 4 (x := .int .i64 g) rfl
    have b5 := H2.out.2.1.c 5 (x := .int .i64 n) rfl
    have b6 := H2.out.2.1.c 6 (x := .slice a l.length c) rfl
    have b7 := H2.out.2.1.c 7 (x := .string ⟨d.toArray⟩) rfl
    have lb := H2.out.2.1.lt
    go_wp2_with fail
    refine (tcp_spec 167772161 b f o s k g n a c l d _ H2.out.2.2 (by unfold maxLen; have := HL.out; omega)).mono ?_
    rintro e w3 ⟨rfl, hg⟩
    rw [HT.out]
    have H3 := Lib.hid (And.intro (grownBy_trans H2.out.1 hg) (And.intro (H2.out.2.1.keep hg) (H2.out.2.2.kept hg)))
    clear hg
    clear b0 b1 b2 b3 b4 b5 b6 b7 lb
    have b0 := H3.out.2.1.c 0 (x := .int .i64 f) rfl
    have b1 := H3.out.2.1.c 1 (x := .int .i64 o) rfl
    have b2 := H3.out.2.1.c 2 (x := .int .i64 s) rfl
    have b3 := H3.out.2.1.c 3 (x := .int .i64 k) rfl
    have b4 := H3.out.2.1.c 4 (x := .int .i64 g) rfl
    have b5 := H3.out.2.1.c 5 (x := .int .i64 n) rfl
    have b6 := H3.out.2.1.c 6 (x := .slice a l.length c) rfl
    have b7 := H3.out.2.1.c 7 (x := .string ⟨d.toArray⟩) rfl
    have lb := H3.out.2.1.lt
    by_cases hok : tcpG 167772161 b f o s k g n l d
    · have hz := seg_zero 167772161 b f o s k g n l d hok
      have hTT : tcpT 167772161 b f o s k g n l d = T := by rw [← HT.out]; exact (if_pos hok).symm
      rw [hTT] at hz
      obtain ⟨hz1, hz2, hz3⟩ := hz
      have HZ := Lib.hid (And.intro hz1 (And.intro hok.1 hok.2.1))
      have hne : T.isEmpty = false := by cases T with | nil => simp at hz3 | cons _ _ => rfl
      clear hz1 hTT hok
      clear b0 b1 b2 b3 b4 b5 b6 b7 lb
      have t1 : IntKind.i64.wrap (8 * (T.length : Int)) = 8 * (T.length : Int) := IntWalk.i64_in _ (by omega)
      have hcv := fun (w : World) => run_bytes_of_string (P := Try.prog) w 9 22 5 ⟨T.toArray⟩ Try.underlying9 Try.underlying22 Try.underlying5
      go_wp2_with fail
      go_loopw [7] (fun i wr => ObRel w3 T i wr) (fun i _ => (8 * (T.length : Int) - intOf i).toNat)
      case atStart => exact ⟨0, Nat.zero_le _, rfl, World.grownBy.refl _ _⟩
      case round =>
        obtain ⟨i, hi, rfl, hg⟩ := hrel
        have HG := Lib.hid hg
        clear hg
        by_cases hlt : i < 8 * T.length
        · obtain ⟨p, hp⟩ : ∃ p, p = i / 8 := ⟨_, rfl⟩
          obtain ⟨j, hj⟩ : ∃ j, j = i % 8 := ⟨_, rfl⟩
          have hpl : p < T.length := by omega
          have hj8 : j < 8 := by omega
          have hi1 : (i : Int) < 8 * (T.length : Int) := by omega
          have td : (i : Int).tdiv 8 = (p : Int) := by rw [Int.tdiv_eq_ediv_of_nonneg (by omega)]; omega
          have tm : (i : Int).tmod 8 = (j : Int) := by rw [Int.tmod_eq_emod_of_nonneg (by omega)]; omega
          have q1 : IntKind.i64.wrap (p : Int) = (p : Int) := IntWalk.i64_in _ (by omega)
          have q2 : IntKind.i64.wrap (j : Int) = (j : Int) := IntWalk.i64_in _ (by omega)
          have s1 : IntKind.i64.wrap ((i : Int) + 1) = (i : Int) + 1 := IntWalk.i64_in _ (by omega)
          clear hp hj
          go_upto_region 11 with fail
          have hbr : BRow ((wr.alloc (.cells (bytesRow ⟨T.toArray⟩ (grownCap wr T.length 0 5)) 5 ((bytesRow ⟨T.toArray⟩ (grownCap wr T.length 0 5)).size, (bytesRow ⟨T.toArray⟩ (grownCap wr T.length 0 5)).size + 1))).drew) wr.heap.size T := brow_new wr T (grownCap wr T.length 0 5)
          have hgr : wr.grownBy ((wr.alloc (.cells (bytesRow ⟨T.toArray⟩ (grownCap wr T.length 0 5)) 5 ((bytesRow ⟨T.toArray⟩ (grownCap wr T.length 0 5)).size, (bytesRow ⟨T.toArray⟩ (grownCap wr T.length 0 5)).size + 1))).drew) none := grownBy_trans (World.grownBy_alloc _ _ _) grownBy_drw
          have H5 := Lib.hid (And.intro hbr hgr)
          clear hbr hgr hcv
          generalize (wr.alloc (.cells (bytesRow ⟨T.toArray⟩ (grownCap wr T.length 0 5)) 5 ((bytesRow ⟨T.toArray⟩ (grownCap wr T.length 0 5)).size, (bytesRow ⟨T.toArray⟩ (grownCap wr T.length 0 5)).size + 1))).drew = w5 at *
          generalize grownCap wr T.length 0 5 = cap at *
          obtain ⟨X, hXe⟩ : ∃ X, wr.heap.size = X := ⟨_, rfl⟩
          have HX := Lib.hid hXe
          rw [hXe]
          have H5 := Lib.hid (show BRow w5 X T ∧ wr.grownBy w5 none by rw [← hXe]; exact H5.out)
          clear hXe
          have hc0 := H5.out.1.c p hpl
          have hf0 := H5.out.1.f p hpl
          have hX := H5.out.1.lt
          rcases (by omega : j = 0 ∨ j = 1 ∨ j = 2 ∨ j = 3 ∨ j = 4 ∨ j = 5 ∨ j = 6 ∨ j = 7) with rfl | rfl | rfl | rfl | rfl | rfl | rfl | rfl
          · have tm0 : (i : Int).tmod 8 = 0 := tm
            obtain ⟨y, hy1, hy2⟩ := byte_turned T[p] 0 (by omega)
            have hx : bits .xor .u8 (T[p].toNat : Int) 1 = (y.toNat : Int) := hy1
            have HN := Lib.hid (seg_flip 167772161 b T HZ.out.2.1 HZ.out.2.2 (by omega) HZ.out.1 p hpl y 0 (by omega) hy2)
            have hback := brow_back H5.out.1 p y hpl cap
            have hgs := t_set w5 X p (.int .u8 (y.toNat : Int))
            have H6 := Lib.hid (t_new H5.out.2 hgs (Nat.le_of_eq HX.out))
            clear hy1 hy2 hgs tm
            generalize T[p] = v at *
            go_wp2_with fail
            refine (read_no 167772161 b (T.set p y) _ HZ.out.2.1 HZ.out.2.2 (by rw [List.length_set]; omega) HN.out).mono ?_
            rintro e w7 ⟨rfl, hg⟩
            have H7 := Lib.hid (grownBy_trans (grownBy_trans HG.out H6.out) hg)
            clear hg hback hc0 hf0
            go_wp2_with fail
            go_roundw
            case rel => exact ⟨i + 1, hlt, by go_num, gA H7.out _⟩
            case measure => simp [intOf]; omega
          · have tm1 : (i : Int).tmod 8 = 1 := tm
            obtain ⟨y, hy1, hy2⟩ := byte_turned T[p] 1 (by omega)
            have hx : bits .xor .u8 (T[p].toNat : Int) 2 = (y.toNat : Int) := hy1
            have HN := Lib.hid (seg_flip 167772161 b T HZ.out.2.1 HZ.out.2.2 (by omega) HZ.out.1 p hpl y 1 (by omega) hy2)
            have hback := brow_back H5.out.1 p y hpl cap
            have hgs := t_set w5 X p (.int .u8 (y.toNat : Int))
            have H6 := Lib.hid (t_new H5.out.2 hgs (Nat.le_of_eq HX.out))
            clear hy1 hy2 hgs tm
            generalize T[p] = v at *
            go_wp2_with fail
            refine (read_no 167772161 b (T.set p y) _ HZ.out.2.1 HZ.out.2.2 (by rw [List.length_set]; omega) HN.out).mono ?_
            rintro e w7 ⟨rfl, hg⟩
            have H7 := Lib.hid (grownBy_trans (grownBy_trans HG.out H6.out) hg)
            clear hg hback hc0 hf0
            go_wp2_with fail
            go_roundw
            case rel => exact ⟨i + 1, hlt, by go_num, gA H7.out _⟩
            case measure => simp [intOf]; omega
          · have tm2 : (i : Int).tmod 8 = 2 := tm
            obtain ⟨y, hy1, hy2⟩ := byte_turned T[p] 2 (by omega)
            have hx : bits .xor .u8 (T[p].toNat : Int) 4 = (y.toNat : Int) := hy1
            have HN := Lib.hid (seg_flip 167772161 b T HZ.out.2.1 HZ.out.2.2 (by omega) HZ.out.1 p hpl y 2 (by omega) hy2)
            have hback := brow_back H5.out.1 p y hpl cap
            have hgs := t_set w5 X p (.int .u8 (y.toNat : Int))
            have H6 := Lib.hid (t_new H5.out.2 hgs (Nat.le_of_eq HX.out))
            clear hy1 hy2 hgs tm
            generalize T[p] = v at *
            go_wp2_with fail
            refine (read_no 167772161 b (T.set p y) _ HZ.out.2.1 HZ.out.2.2 (by rw [List.length_set]; omega) HN.out).mono ?_
            rintro e w7 ⟨rfl, hg⟩
            have H7 := Lib.hid (grownBy_trans (grownBy_trans HG.out H6.out) hg)
            clear hg hback hc0 hf0
            go_wp2_with fail
            go_roundw
            case rel => exact ⟨i + 1, hlt, by go_num, gA H7.out _⟩
            case measure => simp [intOf]; omega
          · have tm3 : (i : Int).tmod 8 = 3 := tm
            obtain ⟨y, hy1, hy2⟩ := byte_turned T[p] 3 (by omega)
            have hx : bits .xor .u8 (T[p].toNat : Int) 8 = (y.toNat : Int) := hy1
            have HN := Lib.hid (seg_flip 167772161 b T HZ.out.2.1 HZ.out.2.2 (by omega) HZ.out.1 p hpl y 3 (by omega) hy2)
            have hback := brow_back H5.out.1 p y hpl cap
            have hgs := t_set w5 X p (.int .u8 (y.toNat : Int))
            have H6 := Lib.hid (t_new H5.out.2 hgs (Nat.le_of_eq HX.out))
            clear hy1 hy2 hgs tm
            generalize T[p] = v at *
            go_wp2_with fail
            refine (read_no 167772161 b (T.set p y) _ HZ.out.2.1 HZ.out.2.2 (by rw [List.length_set]; omega) HN.out).mono ?_
            rintro e w7 ⟨rfl, hg⟩
            have H7 := Lib.hid (grownBy_trans (grownBy_trans HG.out H6.out) hg)
            clear hg hback hc0 hf0
            go_wp2_with fail
            go_roundw
            case rel => exact ⟨i + 1, hlt, by go_num, gA H7.out _⟩
            case measure => simp [intOf]; omega
          · have tm4 : (i : Int).tmod 8 = 4 := tm
            obtain ⟨y, hy1, hy2⟩ := byte_turned T[p] 4 (by omega)
            have hx : bits .xor .u8 (T[p].toNat : Int) 16 = (y.toNat : Int) := hy1
            have HN := Lib.hid (seg_flip 167772161 b T HZ.out.2.1 HZ.out.2.2 (by omega) HZ.out.1 p hpl y 4 (by omega) hy2)
            have hback := brow_back H5.out.1 p y hpl cap
            have hgs := t_set w5 X p (.int .u8 (y.toNat : Int))
            have H6 := Lib.hid (t_new H5.out.2 hgs (Nat.le_of_eq HX.out))
            clear hy1 hy2 hgs tm
            generalize T[p] = v at *
            go_wp2_with fail
            refine (read_no 167772161 b (T.set p y) _ HZ.out.2.1 HZ.out.2.2 (by rw [List.length_set]; omega) HN.out).mono ?_
            rintro e w7 ⟨rfl, hg⟩
            have H7 := Lib.hid (grownBy_trans (grownBy_trans HG.out H6.out) hg)
            clear hg hback hc0 hf0
            go_wp2_with fail
            go_roundw
            case rel => exact ⟨i + 1, hlt, by go_num, gA H7.out _⟩
            case measure => simp [intOf]; omega
          · have tm5 : (i : Int).tmod 8 = 5 := tm
            obtain ⟨y, hy1, hy2⟩ := byte_turned T[p] 5 (by omega)
            have hx : bits .xor .u8 (T[p].toNat : Int) 32 = (y.toNat : Int) := hy1
            have HN := Lib.hid (seg_flip 167772161 b T HZ.out.2.1 HZ.out.2.2 (by omega) HZ.out.1 p hpl y 5 (by omega) hy2)
            have hback := brow_back H5.out.1 p y hpl cap
            have hgs := t_set w5 X p (.int .u8 (y.toNat : Int))
            have H6 := Lib.hid (t_new H5.out.2 hgs (Nat.le_of_eq HX.out))
            clear hy1 hy2 hgs tm
            generalize T[p] = v at *
            go_wp2_with fail
            refine (read_no 167772161 b (T.set p y) _ HZ.out.2.1 HZ.out.2.2 (by rw [List.length_set]; omega) HN.out).mono ?_
            rintro e w7 ⟨rfl, hg⟩
            have H7 := Lib.hid (grownBy_trans (grownBy_trans HG.out H6.out) hg)
            clear hg hback hc0 hf0
            go_wp2_with fail
            go_roundw
            case rel => exact ⟨i + 1, hlt, by go_num, gA H7.out _⟩
            case measure => simp [intOf]; omega
          · have tm6 : (i : Int).tmod 8 = 6 := tm
            obtain ⟨y, hy1, hy2⟩ := byte_turned T[p] 6 (by omega)
            have hx : bits .xor .u8 (T[p].toNat : Int) 64 = (y.toNat : Int) := hy1
            have HN := Lib.hid (seg_flip 167772161 b T HZ.out.2.1 HZ.out.2.2 (by omega) HZ.out.1 p hpl y 6 (by omega) hy2)
            have hback := brow_back H5.out.1 p y hpl cap
            have hgs := t_set w5 X p (.int .u8 (y.toNat : Int))
            have H6 := Lib.hid (t_new H5.out.2 hgs (Nat.le_of_eq HX.out))
            clear hy1 hy2 hgs tm
            generalize T[p] = v at *
            go_wp2_with fail
            refine (read_no 167772161 b (T.set p y) _ HZ.out.2.1 HZ.out.2.2 (by rw [List.length_set]; omega) HN.out).mono ?_
            rintro e w7 ⟨rfl, hg⟩
            have H7 := Lib.hid (grownBy_trans (grownBy_trans HG.out H6.out) hg)
            clear hg hback hc0 hf0
            go_wp2_with fail
            go_roundw
            case rel => exact ⟨i + 1, hlt, by go_num, gA H7.out _⟩
            case measure => simp [intOf]; omega
          · have tm7 : (i : Int).tmod 8 = 7 := tm
            obtain ⟨y, hy1, hy2⟩ := byte_turned T[p] 7 (by omega)
            have hx : bits .xor .u8 (T[p].toNat : Int) 128 = (y.toNat : Int) := hy1
            have HN := Lib.hid (seg_flip 167772161 b T HZ.out.2.1 HZ.out.2.2 (by omega) HZ.out.1 p hpl y 7 (by omega) hy2)
            have hback := brow_back H5.out.1 p y hpl cap
            have hgs := t_set w5 X p (.int .u8 (y.toNat : Int))
            have H6 := Lib.hid (t_new H5.out.2 hgs (Nat.le_of_eq HX.out))
            clear hy1 hy2 hgs tm
            generalize T[p] = v at *
            go_wp2_with fail
            refine (read_no 167772161 b (T.set p y) _ HZ.out.2.1 HZ.out.2.2 (by rw [List.length_set]; omega) HN.out).mono ?_
            rintro e w7 ⟨rfl, hg⟩
            have H7 := Lib.hid (grownBy_trans (grownBy_trans HG.out H6.out) hg)
            clear hg hback hc0 hf0
            go_wp2_with fail
            go_roundw
            case rel => exact ⟨i + 1, hlt, by go_num, gA H7.out _⟩
            case measure => simp [intOf]; omega
        · obtain rfl : i = 8 * T.length := by omega
          go_wp2_with fail
          go_ret
          exact ⟨rfl, below_new (grownBy_trans H3.out.1 HG.out)⟩
    · have HE := Lib.hid (show T = [] by rw [← HT.out]; exact if_neg hok)
      clear hok
      have hTe := HE.out
      subst hTe
      go_wp2_with fail
      refine (tcp_spec 167772161 b f o s k g n a c l d _ H3.out.2.2 (by unfold maxLen; have := HL.out; omega)).mono ?_
      rintro e w4 ⟨rfl, hg⟩
      rw [HT.out]
      have HG := Lib.hid (grownBy_trans H3.out.1 hg)
      clear hg
      go_wp2_with fail
      go_ret
      exact ⟨rfl, below_new HG.out⟩

set_option maxRecDepth 100000 in
theorem lifted (os : Os) (started : os.Started) (H : Type) (enc : TypeId × Value → H) :
    ReturnsInHanded {} Try.checked os 5 .any (Rows.fnOneBitSumsSpec.pre6 enc Try.prog Try.f5 Rows.fnOneBitSumsRow.domain false) (Rows.fnOneBitSumsSpec.post enc Try.prog Try.f5 false true false false) := by
  refine returnsInHanded_of_change (C := Try.checked) own started (by kernel_rfl) Try.func5
    (ChangeSpec.witness6 (enc := enc) (C := Try.checked) false ⟨#[], #[.slice none 0 0], []⟩ 8 (by kernel_rfl) (by kernel_rfl) (by kernel_rfl) (by kernel_rfl)) ?_
  intro W base args ds gs before hval0 hW hcnd _
  have hval : ∀ (j : Nat) t v, Try.f5.params[j]? = some t → args[j]? = some v → Value.okWide Try.prog W .any base t v := hval0
  have hW' := hW
  obtain ⟨p, q, hA0, hV, rfl, hfz, hnd⟩ := hW
  have hA : DataW.TrodAll enc Try.prog W 0 (fun _ => true) true Try.f5.params.toList args.toList ds p := hA0
  rw [Try.params5] at hA hval
  obtain ⟨v0, vs0, d0, ds0, p0, q0, hargs, rfl, rfl, h0, r0⟩ := trodAll_cons hA
  obtain ⟨rfl, rfl, rfl⟩ := trodAll_nil r0
  obtain rfl : args = #[v0] := by cases args; simp_all
  obtain ⟨rfl, rfl⟩ := trodVars_none hV
  have k0 := h0
  have lt0 : ∀ x ∈ p0, x.block < W.heap.size := by obtain ⟨m, hm⟩ := k0; exact DataW.trod_lt m _ _ _ hm
  obtain ⟨a0, len0, cap0, rfl⟩ := okWide_slice Try.underlying22 (hval 0 22 v0 rfl rfl)
  obtain ⟨z0, w0⟩ : ∃ zs, IsRow .u8 W a0 len0 cap0 zs := by
    obtain ⟨fuel, hf⟩ := h0
    rcases open_ints Try.underlying22 Try.underlying5 (by kernel_rfl) hf with ⟨hcs, _⟩ | ⟨x, l, c, zs, hcs, _, hl, hm, hz, _, hcell, hwz⟩
    · simp [Value.cells] at hcs
      obtain ⟨rfl, rfl, rfl⟩ := hcs
      exact ⟨[], .inl ⟨rfl, rfl, rfl, rfl⟩⟩
    · simp [Value.cells] at hcs
      obtain ⟨rfl, rfl, rfl⟩ := hcs
      exact ⟨zs, .inr ⟨_, rfl, hl, hm, by simpa using hz, hcell, hwz⟩⟩
  clear hA0 hval0
  refine (walk a0 len0 cap0 z0 W w0).mono fun e W' ⟨he, bel⟩ => ?_
  subst he
  exact ⟨_, rfl, _, _, _, [], _, [], hW', trodAll_mk1 (shut_bool Try.underlying4 _), (trodAll_cons_mk (Below.trod laidOut (by kernel_rfl) (of_decide_eq_true (by kernel_rfl)) k0 bel lt0) trodAll_mk0), rfl, bel.frame _, fun h => by cases h⟩

theorem over : Rows.fnOneBitSumsRow.holds Try.pinned (OpenSpec.ofChange Rows.fnOneBitSumsSpec) :=
  OpenClaim.holds_of_wide 5 Try.f5 rfl rfl rfl rfl rfl rfl rfl ⟨rfl, rfl, rfl, rfl, rfl⟩ rfl rfl rfl rfl rfl (by kernel_rfl) Try.func5 (by kernel_rfl)
    (of_decide_eq_true (by kernel_rfl)) (by unfold Func.isWrapper; first | (rw [if_pos (by decide +kernel)]; kernel_rfl) | (rw [if_neg (by decide +kernel)]; exact ⟨rfl, rfl⟩))
    (fun os started H enc _ => lifted os started H enc)

theorem proved : Rows.FnOneBitSumsSaid := over
end Go.Proofs.Ythonmghfgcibhaa.fnOneBitSums
