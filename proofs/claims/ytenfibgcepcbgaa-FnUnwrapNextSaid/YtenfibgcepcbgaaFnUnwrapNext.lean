/- For every code of bytes the law FnUnwrapNext answers true and leaves the code as it was; no condition. -/
import Derived.Test.YtenfibgcepcbgaaRows
import Derived.WalkKit
import Derived.Test.YtenfibgcepcbgaaDraw
import Derived.ProofKit
import Derived.LoopTactic
import Derived.OpenShut
import Derived.ShutString
import Derived.ChangeOld
import Derived.Below
namespace Go.Proofs.Ytenfibgcepcbgaa.fnUnwrapNext
open Go.ChangeShapes Go.WideShapes Go.ChangeAt Go.RowKit
open Go.ChangeMaps (open_string shut_string)
set_option linter.unusedVariables false

theorem own : ownKnob Try.prog.godebug = none := by kernel_rfl
theorem laidOut : laidOutB Try.prog = true := by kernel_rfl

/-- WHAT THE WALK IS TOLD OF A SLICE OF INTEGERS THAT CAME IN: it is nil; or it leads to a row of 'cap' cells, the numbers 'zs' (the first 'len' are its elements, the rest its spare room), each fitting its kind. -/
def IsRow (k : IntKind) (w : World) (a : Option Addr) (len cap : Nat) (zs : List Int) : Prop :=
  (a = none ∧ len = 0 ∧ cap = 0 ∧ zs = []) ∨
  ∃ x, a = some x ∧ len ≤ cap ∧ cap ≤ maxLen ∧ zs.length = cap ∧ (∀ i, i < zs.length → w.cell? (x.add i) = some (.int k (zs.getD i 0))) ∧ ∀ n ∈ zs, (Lit.int k n).wf = true

theorem next_ok (m st : Int) (h0 : 0 ≤ m) (h1 : m ≤ 1000000000000) (s0 : 0 ≤ st) (s1 : st ≤ 1073741824) : unwrap m (seqAdd (m % 4294967296) st) = m + st := by
  have hm : 0 ≤ m % 4294967296 ∧ m % 4294967296 < 4294967296 := by omega
  have e : seqAdd (m % 4294967296) st = (m % 4294967296 + st + 4294967296) % 4294967296 := by unfold seqAdd; rw [if_pos (by omega)]
  have d : diff (seqAdd (m % 4294967296) st) (m % 4294967296) = st := by rw [e]; unfold diff; split <;> omega
  unfold unwrap
  rw [d, if_pos (by rw [e]; omega), if_neg (by omega)]

theorem mul_bd (k : Nat) (st : Int) (hk : k ≤ 50) (s0 : 0 ≤ st) (s1 : st ≤ 1073741824) : 0 ≤ (k : Int) * st ∧ (k : Int) * st ≤ 53687091200 := by
  constructor
  · exact Int.mul_nonneg (by omega) s0
  · have h1 : (k : Int) * st ≤ (k : Int) * 1073741824 := Int.mul_le_mul_of_nonneg_left s1 (by omega)
    omega

def NextRel (n st : Int) (now i : Value) : Prop :=
  ∃ (k : Nat) (m : Int), 1 ≤ k ∧ k ≤ 51 ∧ i = .int .i64 k ∧ now = .int .i64 m ∧ m + st = n + (k : Int) * st

set_option maxRecDepth 100000 in
set_option maxHeartbeats 4000000 in
theorem walk (a0 : Option Addr) (len0 cap0 : Nat) (z0 : List Int) (w : World) (w0 : IsRow .u8 w a0 len0 cap0 z0) :
    Calls Try.prog 6 #[.slice a0 len0 cap0] w fun e w' => e = .returned (.bool true) ∧ Below w.heap.size w w' := by
  have hc := code_of w0
  clear w0
  have HC := Lib.hid hc
  clear hc
  by_cases hbig : 1048576 < len0
  · go_enter Try.func6, Try.ntmps6
    go_wp2_with (go_at_call 15; refine (big_any _ _ _ _).mono ?_; rintro e w' ⟨rfl, rfl⟩)
    go_ret
    exact ⟨rfl, Below.refl _ _⟩
  · go_enter Try.func6, Try.ntmps6
    go_wp2_with (go_at_call 15; refine (big_any _ _ _ _).mono ?_; rintro e w' ⟨rfl, rfl⟩)
    refine (draw_unwrap _ _ _ _ HC.out).mono ?_
    rintro e w1 ⟨l, s, hl, hs, rfl, hg⟩
    have HG := Lib.hid hg
    clear hg hs hl
    go_wp2_with fail
    refine (unwrap_impl _ _ _).mono ?_
    rintro e w' ⟨rfl, rfl⟩
    by_cases g1 : unwrap l s < 0
    · go_wp2_with (go_at_call 24; refine (unwrap_spec _ _ _).mono ?_; rintro e w' ⟨rfl, rfl⟩)
      all_goals
        go_ret
        exact ⟨rfl, below_new HG.out⟩
    · by_cases g2 : 429496729600 < unwrap l s
      · go_wp2_with (go_at_call 24; refine (unwrap_spec _ _ _).mono ?_; rintro e w' ⟨rfl, rfl⟩)
        all_goals
          go_ret
          exact ⟨rfl, below_new HG.out⟩
      · go_wp2_with (go_at_call 24; refine (unwrap_spec _ _ _).mono ?_; rintro e w' ⟨rfl, rfl⟩)
        have hst : 0 ≤ 1073741824 - (len0 : Int) % 1000 ∧ 1073741824 - (len0 : Int) % 1000 ≤ 1073741824 := by omega
        generalize 1073741824 - (len0 : Int) % 1000 = st at *
        generalize unwrap l s = n at *
        go_loop [7, 8] (fun now i => NextRel n st now i) (fun _ i => 51 - (intOf i).toNat)
        case atStart => exact ⟨1, n, by omega, by omega, rfl, rfl, by simp⟩
        case round =>
          obtain ⟨k, m, hk0, hk1, rfl, rfl, hm⟩ := hrel
          by_cases hlt : k ≤ 50
          · have hp := mul_bd k st hlt hst.1 hst.2
            have hnx : unwrap m (seqAdd (m % 4294967296) st) = m + st := by
              by_cases hk : k = 1
              · subst hk; exact next_ok m st (by omega) (by omega) hst.1 hst.2
              · have hq := mul_bd (k - 1) st (by omega) hst.1 hst.2
                have hc : ((k - 1 : Nat) : Int) = (k : Int) - 1 := by omega
                rw [hc, Int.sub_mul] at hq
                exact next_ok m st (by omega) (by omega) hst.1 hst.2
            have hm0 : 0 ≤ m ∧ m ≤ 1000000000000 := by
              by_cases hk : k = 1
              · subst hk; omega
              · have hq := mul_bd (k - 1) st (by omega) hst.1 hst.2
                have hc : ((k - 1 : Nat) : Int) = (k : Int) - 1 := by omega
                rw [hc, Int.sub_mul] at hq
                omega
            have hnext : m + st + st = n + ((k + 1 : Nat) : Int) * st := by
              have hc : ((k + 1 : Nat) : Int) = (k : Int) + 1 := by omega
              rw [hc, Int.add_mul]
              omega
            have HM := Lib.hid hnext
            clear hnext
            have hne : (m + st != n + (k : Int) * st) = false := by simpa using hm
            clear hm
            go_wp2_with (first | (go_at_call 17; refine (add_impl _ _ _).mono ?_; rintro e w' ⟨rfl, rfl⟩) | (go_at_call 23; refine (unwrap_impl _ _ _).mono ?_; rintro e w' ⟨rfl, rfl⟩))
            go_round
            case rel => exact ⟨k + 1, m + st, by omega, by omega, by go_num, rfl, HM.out⟩
            case measure => simp [intOf]; omega
          · clear hm
            go_wp2_with fail
            go_ret
            exact ⟨rfl, below_new HG.out⟩

set_option maxRecDepth 100000 in
theorem lifted (os : Os) (started : os.Started) (H : Type) (enc : TypeId × Value → H) :
    ReturnsInHanded {} Try.checked os 6 .any (Rows.fnUnwrapNextSpec.pre6 enc Try.prog Try.f6 Rows.fnUnwrapNextRow.domain false) (Rows.fnUnwrapNextSpec.post enc Try.prog Try.f6 false true false false) := by
  refine returnsInHanded_of_change (C := Try.checked) own started (by kernel_rfl) Try.func6
    (ChangeSpec.witness6 (enc := enc) (C := Try.checked) false ⟨#[], #[.slice none 0 0], []⟩ 8 (by kernel_rfl) (by kernel_rfl) (by kernel_rfl) (by kernel_rfl)) ?_
  intro W base args ds gs before hval0 hW hcnd _
  have hval : ∀ (j : Nat) t v, Try.f6.params[j]? = some t → args[j]? = some v → Value.okWide Try.prog W .any base t v := hval0
  have hW' := hW
  obtain ⟨p, q, hA0, hV, rfl, hfz, hnd⟩ := hW
  have hA : DataW.TrodAll enc Try.prog W 0 (fun _ => true) true Try.f6.params.toList args.toList ds p := hA0
  rw [Try.params6] at hA hval
  obtain ⟨v0, vs0, d0, ds0, p0, q0, hargs, rfl, rfl, h0, r0⟩ := trodAll_cons hA
  obtain ⟨rfl, rfl, rfl⟩ := trodAll_nil r0
  obtain rfl : args = #[v0] := by cases args; simp_all
  obtain ⟨rfl, rfl⟩ := trodVars_none hV
  obtain ⟨a0, len0, cap0, rfl⟩ := okWide_slice Try.underlying22 (hval 0 22 v0 rfl rfl)
  have k0 := h0
  have lt0 : ∀ x ∈ p0, x.block < W.heap.size := by obtain ⟨m, hm⟩ := k0; exact DataW.trod_lt m _ _ _ hm
  obtain ⟨z0, w0⟩ : ∃ zs, IsRow .u8 W a0 len0 cap0 zs := by
    obtain ⟨fuel, hf⟩ := h0
    rcases open_ints Try.underlying22 Try.underlying5 (by kernel_rfl) hf with ⟨hcs, _⟩ | ⟨x, l, c, zs, hcs, _, hl, hm, hz, _, hcell, hwz⟩
    · simp [Value.cells] at hcs
      obtain ⟨rfl, rfl, rfl⟩ := hcs
      exact ⟨[], .inl ⟨rfl, rfl, rfl, rfl⟩⟩
    · simp [Value.cells] at hcs
      obtain ⟨rfl, rfl, rfl⟩ := hcs
      exact ⟨zs, .inr ⟨_, rfl, hl, hm, by simpa using hz, hcell, hwz⟩⟩
  clear hA0 hval0
  refine (walk a0 len0 cap0 z0 W w0).mono fun e W' ⟨he, bel⟩ => ?_
  subst he
  exact ⟨_, rfl, _, _, _, [], _, [], hW', trodAll_mk1 (shut_bool Try.underlying4 _), (trodAll_cons_mk (Below.trod laidOut (by kernel_rfl) (of_decide_eq_true (by kernel_rfl)) k0 bel lt0) trodAll_mk0), rfl, bel.frame _, fun h => by cases h⟩

theorem over : Rows.fnUnwrapNextRow.holds Try.pinned (OpenSpec.ofChange Rows.fnUnwrapNextSpec) :=
  OpenClaim.holds_of_wide 6 Try.f6 rfl rfl rfl rfl rfl rfl rfl ⟨rfl, rfl, rfl, rfl, rfl⟩ rfl rfl rfl rfl rfl (by kernel_rfl) Try.func6 (by kernel_rfl)
    (of_decide_eq_true (by kernel_rfl)) (by unfold Func.isWrapper; first | (rw [if_pos (by decide +kernel)]; kernel_rfl) | (rw [if_neg (by decide +kernel)]; exact ⟨rfl, rfl⟩))
    (fun os started H enc _ => lifted os started H enc)

theorem proved : Rows.FnUnwrapNextSaid := over
end Go.Proofs.Ytenfibgcepcbgaa.fnUnwrapNext
