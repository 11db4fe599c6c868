/- For every code the law FnTcpLong answers true and leaves its argument as it was; no condition. -/
import Derived.Test.YthonmghfgcibhaaRows
import Derived.Test.YthonmghfgcibhaaDraw
import Derived.Test.YthonmghfgcibhaaTcE
import Derived.WalkKit
import Derived.ProofKit
import Derived.OpenShut
import Derived.ShutString
import Derived.ChangeOld
import Derived.Below
import Derived.Lib.SmallJoins
namespace Go.Proofs.Ythonmghfgcibhaa.fnTcpLong
open Go.ChangeShapes Go.WideShapes Go.ChangeAt Go.RowKit Go.Joins
open Go.ChangeMaps (open_string shut_string)
set_option linter.unusedVariables false

theorem own : ownKnob Try.prog.godebug = none := by kernel_rfl
theorem laidOut : laidOutB Try.prog = true := by kernel_rfl


def IsRow (k : IntKind) (w : World) (a : Option Addr) (len cap : Nat) (zs : List Int) : Prop :=
  (a = none ∧ len = 0 ∧ cap = 0 ∧ zs = []) ∨
  ∃ x, a = some x ∧ len ≤ cap ∧ cap ≤ maxLen ∧ zs.length = cap ∧ (∀ i, i < zs.length → w.cell? (x.add i) = some (.int k (zs.getD i 0))) ∧ ∀ n ∈ zs, (Lit.int k n).wf = true

theorem ext_tail2 (l : List UInt8) (n : Nat) : ({ data := l.toArray } : ByteArray).extract n l.length = ⟨(l.drop n).toArray⟩ := ba_of (by rw [Lib.extract_data]; simp; exact List.take_of_length_le (by simp))
theorem long_lists (a b f o s k g n : Int) (l : List Rg) (d : List UInt8) (h : tcpG a b f o s k g n l d) : ∃ (hd O : List UInt8), tcpL a b f o s k g n l d = hd ++ (O ++ d) ∧ hd.length = 20 ∧ O.length = (if l = [] then 0 else 4 + 8 * l.length) ∧ d.length ≤ 200 := by
  have hS := h.2.2.2
  obtain ⟨f0, f1, o0, o1, s0, s1, k0, k1, g0, g1, n0, n1, hd⟩ := h.2.2.1
  have hol := optL_len l hS
  have hsl := hS.1
  have hq : (optL l).length ≤ 28 := by rw [hol]; split <;> omega
  have hh : 0 ≤ aheadOf l ∧ aheadOf l < 256 := by unfold aheadOf; omega
  have hm := segSum_bd a b (tcpHd f o s k g n (aheadOf l) 0 ++ (optL l ++ d)) (by have := tcpHd_len f o s k g n (aheadOf l) 0; simp only [List.length_append]; omega)
  refine ⟨_, optL l, if_pos h, ?_, hol, hd⟩
  show (tcpHd f o s k g n (aheadOf l) (segSum a b (tcpHd f o s k g n (aheadOf l) 0 ++ (optL l ++ d)))).length = 20
  generalize segSum a b (tcpHd f o s k g n (aheadOf l) 0 ++ (optL l ++ d)) = m at *
  have b1 := two_len f f0 (by omega)
  have b2 := two_len o o0 (by omega)
  have b3 := four_len s s0 s1
  have b4 := four_len k k0 k1
  have b5 : (putL (aheadOf l) 1).length = 1 := putL_len _ 1 ⟨by omega, by omega, hh.1, by simpa using hh.2⟩
  have g2 : g < 256 := by omega
  have b6 : (putL g 1).length = 1 := putL_len _ 1 ⟨by omega, by omega, g0, by simpa using g2⟩
  have b7 := two_len n n0 (by omega)
  have b8 := two_len m hm.1 hm.2
  have b9 := two_len 0 (by omega) (by omega)
  simp only [tcpHd, tcpOl, List.flatten_cons, List.flatten_nil, List.length_append, List.length_nil]
  omega

set_option maxRecDepth 100000 in
set_option maxHeartbeats 4000000 in
theorem walk (a0 : Option Addr) (len0 cap0 : Nat) (z0 : List Int) (w : World) (w0 : IsRow .u8 w a0 len0 cap0 z0) :
    Calls Try.prog 3 #[.slice a0 len0 cap0] w fun e w' => e = .returned (.bool true) ∧ Below w.heap.size w w' := by
  have hc := code_of w0
  clear w0
  have HC := Lib.hid hc
  clear hc
  by_cases hbig : 1048576 < len0
  · go_enter Try.func3, Try.ntmps3
    go_wp2_with (go_at_call 6; refine (big_any _ _ _ _).mono ?_; rintro e w' ⟨rfl, rfl⟩)
    go_ret
    exact ⟨rfl, Below.refl _ _⟩
  · go_enter Try.func3, Try.ntmps3
    go_wp2_with (go_at_call 6; refine (big_any _ _ _ _).mono ?_; rintro e w' ⟨rfl, rfl⟩)
    refine (draw_tcpb _ _ _ _ HC.out).mono ?_
    rintro e v0 ⟨b, f, o, s, k, g, n, a, c, l, d, rfl, hl, hg, hrow⟩
    have H1 := Lib.hid (And.intro (gA hg (.cells #[.int .i64 f, .int .i64 o, .int .i64 s, .int .i64 k, .int .i64 g, .int .i64 n, .slice a l.length c, .string ⟨d.toArray⟩] 26)) (And.intro (Bx.new v0 26 #[.int .i64 f, .int .i64 o, .int .i64 s, .int .i64 k, .int .i64 g, .int .i64 n, .slice a l.length c, .string ⟨d.toArray⟩]) (hrow.kept (World.grownBy_alloc v0 (.cells #[.int .i64 f, .int .i64 o, .int .i64 s, .int .i64 k, .int .i64 g, .int .i64 n, .slice a l.length c, .string ⟨d.toArray⟩] 26) none))))
    have HL := Lib.hid hl
    clear hg hrow hl
    go_upto_region 4 with fail
    generalize v0.heap.size = B0 at *
    generalize v0.alloc (.cells #[.int .i64 f, .int .i64 o, .int .i64 s, .int .i64 k, .int .i64 g, .int .i64 n, .slice a l.length c, .string ⟨d.toArray⟩] 26) = w1 at *
    obtain ⟨T, hT⟩ : ∃ T, tcpL 167772161 b f o s k g n l d = T := ⟨_, rfl⟩
    have HT := Lib.hid hT
    clear hT
    have b0 := H1.out.2.1.c 0 (x := .int .i64 f) rfl
    have b1 := H1.out.2.1.c 1 (x := .int .i64 o) rfl
    have b2 := H1.out.2.1.c 2 (x := .int .i64 s) rfl
    have b3 := H1.out.2.1.c 3 (x := .int .i64 k) rfl
    have b4 := H1.out.2.1.c 4 (x := .int .i64 g) rfl
    have b5 := H1.out.2.1.c 5 (x := .int .i64 n) rfl
    have b6 := H1.out.2.1.c 6 (x := .slice a l.length c) rfl
    have b7 := H1.out.2.1.c 7 (x := .string ⟨d.toArray⟩) rfl
    have lb := H1.out.2.1.lt
    go_wp2_with fail
    refine (tcp_impl 167772161 b f o s k g n a c l d _ H1.out.2.2).mono ?_
    rintro e w2 ⟨rfl, hg⟩
    rw [HT.out]
    have H2 := Lib.hid (And.intro (grownBy_trans H1.out.1 hg) (And.intro (H1.out.2.1.keep hg) (H1.out.2.2.kept hg)))
    clear hg
    clear b0 b1 b2 b3 b4 b5 b6 b7 lb
    have b0 := H2.out.2.1.c 0 (x := .int .i64 f) rfl
    have b1 := H2.out.2.1.c 1 (x := .int .i64 o) rfl
    have b2 := H2.out.2.1.c 2 (x := .int .i64 s) rfl
    have b3 := H2.out.2.1.c 3 (x := .int .i64 k) rfl
    have b4 := H2.out.2.1.c 4 (x := .int .i64 g) rfl
    have b5 := H2.out.2.1.c 5 (x := .int .i64 n) rfl
    have b6 := H2.out.2.1.c 6 (x := .slice a l.length c) rfl
    have b7 := H2.out.2.1.c 7 (x := .string ⟨d.toArray⟩) rfl
    have lb := H2.out.2.1.lt
    go_wp2_with fail
    refine (tcp_spec 167772161 b f o s k g n a c l d _ H2.out.2.2 (by unfold maxLen; have := HL.out; omega)).mono ?_
    rintro e w3 ⟨rfl, hg⟩
    rw [HT.out]
    have H3 := Lib.hid (And.intro (grownBy_trans H2.out.1 hg) (And.intro (H2.out.2.1.keep hg) (H2.out.2.2.kept hg)))
    clear hg
    clear b0 b1 b2 b3 b4 b5 b6 b7 lb
    have b0 := H3.out.2.1.c 0 (x := .int .i64 f) rfl
    have b1 := H3.out.2.1.c 1 (x := .int .i64 o) rfl
    have b2 := H3.out.2.1.c 2 (x := .int .i64 s) rfl
    have b3 := H3.out.2.1.c 3 (x := .int .i64 k) rfl
    have b4 := H3.out.2.1.c 4 (x := .int .i64 g) rfl
    have b5 := H3.out.2.1.c 5 (x := .int .i64 n) rfl
    have b6 := H3.out.2.1.c 6 (x := .slice a l.length c) rfl
    have b7 := H3.out.2.1.c 7 (x := .string ⟨d.toArray⟩) rfl
    have lb := H3.out.2.1.lt
    by_cases hok : tcpG 167772161 b f o s k g n l d
    · obtain ⟨hd, O, hT, hdl, hO, hd2⟩ := long_lists 167772161 b f o s k g n l d hok
      rw [HT.out] at hT
      have hO2 : O.length ≤ 28 := by rw [hO]; have := HL.out; split <;> omega
      have hTl : T.length = 20 + (O.length + d.length) := by rw [hT, List.length_append, List.length_append, hdl]
      have hne : T.isEmpty = false := by cases T with | nil => simp at hTl; omega | cons _ _ => rfl
      have hdr : T.drop (20 + O.length) = d := by rw [hT, ← List.append_assoc]; exact List.drop_left' (by rw [List.length_append, hdl])
      clear hT hok
      obtain ⟨m, hm⟩ : ∃ m : Nat, 20 + O.length = m := ⟨_, rfl⟩
      rw [hm] at hdr
      have hTm : T.length = m + d.length := by omega
      have hm1 : m ≤ 48 := by omega
      clear hdl hTl
      have HDR := Lib.hid hdr
      have HTM := Lib.hid hTm
      have hmT : (m : Int) ≤ (T.length : Int) := by omega
      have e1 : ((T.length : Int) == (m : Int) + (d.length : Int)) = true := by simp; omega
      have e2 : IntKind.i64.wrap ((m : Int) + (d.length : Int)) = (m : Int) + (d.length : Int) := IntWalk.i64_in _ (by omega)
      have e3 : ({ data := T.toArray } : ByteArray).extract m T.length = { data := d.toArray } := by rw [ext_tail2, HDR.out]
      have e4 : IntKind.i64.wrap (m : Int) = (m : Int) := IntWalk.i64_in _ (by omega)
      clear hdr hTm
      cases l with
      | nil =>
        have hm0 : m = 20 := by rw [← hm, hO]; rfl
        subst hm0
        have hk := HTM.out
        clear hm hO hO2 e1 e2 e4 hmT
        have hmT : (20 : Int) ≤ (T.length : Int) := by omega
        have e1 : ((T.length : Int) == 20 + (d.length : Int)) = true := by simp; omega
        have e2 : IntKind.i64.wrap (20 + (d.length : Int)) = 20 + (d.length : Int) := IntWalk.i64_in _ (by omega)
        clear hk
        go_upto_region 10 with fail
        go_quiet (fail)
        go_wp2_with fail
        go_ret
        first | exact ⟨rfl, below_new (grownBy_trans H3.out.1 (grownBy_drewN _))⟩ | exact ⟨by simp [e1, e3], below_new (grownBy_trans H3.out.1 (grownBy_drewN _))⟩ | exact ⟨by simp_all, below_new (grownBy_trans H3.out.1 (grownBy_drewN _))⟩ | exact ⟨rfl, below_new H3.out.1⟩
      | cons x l =>
        have hl1 : (0 : Int) < (((x :: l).length : Nat) : Int) := by simp <;> omega
        have hm0 : (m : Int) = 24 + 8 * (((x :: l).length : Nat) : Int) := by rw [← hm, hO]; simp; omega
        have hl3 : (x :: l).length ≤ 2 := HL.out
        clear hm hO hO2
        generalize (x :: l).length = y at *
        have w1a : IntKind.i64.wrap (8 * (y : Int)) = 8 * (y : Int) := IntWalk.i64_in _ (by omega)
        have w2a : IntKind.i64.wrap (24 + 8 * (y : Int)) = (m : Int) := by rw [hm0]; exact IntWalk.i64_in _ (by omega)
        clear hm0
        go_upto_region 10 with fail
        go_quiet (fail)
        go_wp2_with fail
        go_ret
        first | exact ⟨rfl, below_new (grownBy_trans H3.out.1 (grownBy_drewN _))⟩ | exact ⟨by simp [e1, e3], below_new (grownBy_trans H3.out.1 (grownBy_drewN _))⟩ | exact ⟨by simp_all, below_new (grownBy_trans H3.out.1 (grownBy_drewN _))⟩ | exact ⟨rfl, below_new H3.out.1⟩
    · have HE := Lib.hid (show T = [] by rw [← HT.out]; exact if_neg hok)
      clear hok
      have hTe := HE.out
      subst hTe
      go_wp2_with fail
      refine (tcp_spec 167772161 b f o s k g n a c l d _ H3.out.2.2 (by unfold maxLen; have := HL.out; omega)).mono ?_
      rintro e w4 ⟨rfl, hg⟩
      rw [HT.out]
      have HG := Lib.hid (grownBy_trans H3.out.1 hg)
      clear hg
      go_wp2_with fail
      go_ret
      exact ⟨rfl, below_new HG.out⟩

set_option maxRecDepth 100000 in
theorem lifted (os : Os) (started : os.Started) (H : Type) (enc : TypeId × Value → H) :
    ReturnsInHanded {} Try.checked os 3 .any (Rows.fnTcpLongSpec.pre6 enc Try.prog Try.f3 Rows.fnTcpLongRow.domain false) (Rows.fnTcpLongSpec.post enc Try.prog Try.f3 false true false false) := by
  refine returnsInHanded_of_change (C := Try.checked) own started (by kernel_rfl) Try.func3
    (ChangeSpec.witness6 (enc := enc) (C := Try.checked) false ⟨#[], #[.slice none 0 0], []⟩ 8 (by kernel_rfl) (by kernel_rfl) (by kernel_rfl) (by kernel_rfl)) ?_
  intro W base args ds gs before hval0 hW hcnd _
  have hval : ∀ (j : Nat) t v, Try.f3.params[j]? = some t → args[j]? = some v → Value.okWide Try.prog W .any base t v := hval0
  have hW' := hW
  obtain ⟨p, q, hA0, hV, rfl, hfz, hnd⟩ := hW
  have hA : DataW.TrodAll enc Try.prog W 0 (fun _ => true) true Try.f3.params.toList args.toList ds p := hA0
  rw [Try.params3] at hA hval
  obtain ⟨v0, vs0, d0, ds0, p0, q0, hargs, rfl, rfl, h0, r0⟩ := trodAll_cons hA
  obtain ⟨rfl, rfl, rfl⟩ := trodAll_nil r0
  obtain rfl : args = #[v0] := by cases args; simp_all
  obtain ⟨rfl, rfl⟩ := trodVars_none hV
  have k0 := h0
  have lt0 : ∀ x ∈ p0, x.block < W.heap.size := by obtain ⟨m, hm⟩ := k0; exact DataW.trod_lt m _ _ _ hm
  obtain ⟨a0, len0, cap0, rfl⟩ := okWide_slice Try.underlying22 (hval 0 22 v0 rfl rfl)
  obtain ⟨z0, w0⟩ : ∃ zs, IsRow .u8 W a0 len0 cap0 zs := by
    obtain ⟨fuel, hf⟩ := h0
    rcases open_ints Try.underlying22 Try.underlying5 (by kernel_rfl) hf with ⟨hcs, _⟩ | ⟨x, l, c, zs, hcs, _, hl, hm, hz, _, hcell, hwz⟩
    · simp [Value.cells] at hcs
      obtain ⟨rfl, rfl, rfl⟩ := hcs
      exact ⟨[], .inl ⟨rfl, rfl, rfl, rfl⟩⟩
    · simp [Value.cells] at hcs
      obtain ⟨rfl, rfl, rfl⟩ := hcs
      exact ⟨zs, .inr ⟨_, rfl, hl, hm, by simpa using hz, hcell, hwz⟩⟩
  clear hA0 hval0
  refine (walk a0 len0 cap0 z0 W w0).mono fun e W' ⟨he, bel⟩ => ?_
  subst he
  exact ⟨_, rfl, _, _, _, [], _, [], hW', trodAll_mk1 (shut_bool Try.underlying4 _), (trodAll_cons_mk (Below.trod laidOut (by kernel_rfl) (of_decide_eq_true (by kernel_rfl)) k0 bel lt0) trodAll_mk0), rfl, bel.frame _, fun h => by cases h⟩

theorem over : Rows.fnTcpLongRow.holds Try.pinned (OpenSpec.ofChange Rows.fnTcpLongSpec) :=
  OpenClaim.holds_of_wide 3 Try.f3 rfl rfl rfl rfl rfl rfl rfl ⟨rfl, rfl, rfl, rfl, rfl⟩ rfl rfl rfl rfl rfl (by kernel_rfl) Try.func3 (by kernel_rfl)
    (of_decide_eq_true (by kernel_rfl)) (by unfold Func.isWrapper; first | (rw [if_pos (by decide +kernel)]; kernel_rfl) | (rw [if_neg (by decide +kernel)]; exact ⟨rfl, rfl⟩))
    (fun os started H enc _ => lifted os started H enc)

theorem proved : Rows.FnTcpLongSaid := over
end Go.Proofs.Ythonmghfgcibhaa.fnTcpLong
