/- For every code the law FnGoodputUp answers true and leaves its argument as it was; no condition. -/
import Derived.Test.YtedhemllgpbheaaRows
import Derived.Test.YtedhemllgpbheaaQ2
import Derived.Test.YtedhemllgpbheaaQ48
import Derived.WalkKit
import Derived.ProofKit
import Derived.OpenShut
import Derived.ShutString
import Derived.ChangeOld
import Derived.Below
import Derived.Lib.SmallJoins
namespace Go.Proofs.Ytedhemllgpbheaa.fnGoodputUp
open Go.ChangeShapes Go.WideShapes Go.ChangeAt Go.RowKit Go.Joins
open Go.ChangeMaps (open_string shut_string)
set_option linter.unusedVariables false

theorem own : ownKnob Try.prog.godebug = none := by kernel_rfl
theorem laidOut : laidOutB Try.prog = true := by kernel_rfl


def IsRow (k : IntKind) (w : World) (a : Option Addr) (len cap : Nat) (zs : List Int) : Prop :=
  (a = none ∧ len = 0 ∧ cap = 0 ∧ zs = []) ∨
  ∃ x, a = some x ∧ len ≤ cap ∧ cap ≤ maxLen ∧ zs.length = cap ∧ (∀ i, i < zs.length → w.cell? (x.add i) = some (.int k (zs.getD i 0))) ∧ ∀ n ∈ zs, (Lit.int k n).wf = true

set_option maxRecDepth 100000 in
set_option maxHeartbeats 4000000 in
theorem walk (a0 : Option Addr) (len0 cap0 : Nat) (z0 : List Int) (w : World) (w0 : IsRow .u8 w a0 len0 cap0 z0) :
    Calls Try.prog 3 #[.slice a0 len0 cap0] w fun e w' => e = .returned (.bool true) ∧ Below w.heap.size w w' := by
-----
  have H := Lib.hid (code_of w0)
  clear w0
  go_enter Try.func3, Try.ntmps3
  go_wp2_with fail
  refine (big_any _ _ _ _).mono ?_
  rintro e w' ⟨rfl, rfl⟩
  by_cases hb : 1048576 < len0
  · rw [decide_eq_true hb]
    go_wp2_with fail
    go_ret
    exact ⟨rfl, below_new (World.grownBy.refl _ _)⟩
  · rw [decide_eq_false hb]
    have hlen : len0 ≤ 1048576 := by omega
    clear hb
    go_wp2_with fail
    refine (draw_good _ _ _ _ H.out).mono ?_
    rintro e w1 ⟨b, d, l, rfl, hg, hn, h4, h3, hc⟩
    have hm : ∀ x ∈ l, x.l.length ≤ 1048576 := fun x hx => by have := h3 x hx; omega
    have HM := Lib.hid hm
    have H1 := Lib.hid (And.intro hg hn)
    clear hg hn H h3 hm
    obtain ⟨G, hG⟩ : ∃ G, G = goodN l := ⟨_, rfl⟩
    obtain ⟨A, hA⟩ : ∃ A, A = againN l := ⟨_, rfl⟩
    have hAl : A.length ≤ 300 := by rw [hA]; exact againN_len l
    have HG := Lib.hid (And.intro hG hA)
    clear hG hA
    go_wp2_with fail
    refine (good_I _ _ _ _ H1.out.2).mono ?_
    rintro e w2 ⟨rfl, hg⟩
    rw [← HG.out.1]
    have H2 := Lib.hid (And.intro (grownBy_trans H1.out.1 hg) (H1.out.2.kept hg))
    clear hg H1
    go_wp2_with fail
    refine (ag_I _ _ _ _ H2.out.2).mono ?_
    rintro e w3 ⟨a1, c1, rfl, hg, ho⟩
    rw [← HG.out.2] at ho
    rw [← HG.out.2]
    have hcap := (cap_any ho).1
    have H3 := Lib.hid (And.intro (grownBy_trans H2.out.1 hg) (And.intro (H2.out.2.kept hg) (i_own ho)))
    have HO := Lib.hid (own_form ho)
    clear hg ho H2
    go_wp2_with fail
    refine (good_S _ _ _ _ H3.out.2.1 (by omega) HM.out).mono ?_
    rintro e w4 ⟨rfl, hg⟩
    rw [← HG.out.1]
    have H4 := Lib.hid (And.intro (grownBy_trans H3.out.1 hg) (And.intro (H3.out.2.1.kept hg) (H3.out.2.2.kept hg)))
    clear hg H3
    have e1 : ((G : Int) != G) = false := by simp
    have e2 : ((G : Int) == G) = true := by simp
    go_wp2_with fail
    refine (ag_S _ _ _ _ H4.out.2.1 (by omega) HM.out).mono ?_
    rintro e w5 ⟨a2, c2, rfl, hg, ho⟩
    rw [← HG.out.2] at ho
    rw [← HG.out.2]
    have H5 := Lib.hid (And.intro (grownBy_trans H4.out.1 hg) (And.intro (H4.out.2.1.kept hg) (And.intro (H4.out.2.2.kept hg) (i_own ho))))
    clear hg ho H4
    go_wp2_with fail
    refine (same_ints _ _ _ _ A _ H5.out.2.2.1 H5.out.2.2.2 (by omega)).mono ?_
    rintro e w6 ⟨rfl, hg⟩
    have H6 := Lib.hid (And.intro (grownBy_trans H5.out.1 hg) (And.intro (H5.out.2.1.kept hg) (H5.out.2.2.1.kept hg)))
    clear hg H5
    go_wp2_with fail
    refine (notes_S _ _ _ _ H6.out.2.1 (by omega) HM.out).mono ?_
    rintro e w7 ⟨rfl, hg⟩
    have H7 := Lib.hid (And.intro (grownBy_trans H6.out.1 hg) (And.intro (H6.out.2.1.kept hg) (H6.out.2.2.kept hg)))
    clear hg H6
    by_cases hp : notesP l
    · rw [decide_eq_true hp]
      have HP := Lib.hid hp
      clear hp
      obtain ⟨K, hK⟩ : ∃ K, K = len0 % (l.length + 1) := ⟨_, rfl⟩
      have hKl : K < l.length + 1 := by rw [hK]; exact Nat.mod_lt _ (by omega)
      have sP : IntKind.i64.wrap ((l.length : Int) + 1) = (l.length : Int) + 1 := IntWalk.i64_in _ (by omega)
      have eK : (len0 : Int) % ((l.length : Int) + 1) = (K : Int) := by rw [hK, Int.natCast_emod]; rfl
      have eT : (len0 : Int).tmod ((l.length : Int) + 1) = (K : Int) := by rw [Int.tmod_eq_emod_of_nonneg (by omega), eK]
      have sK : IntKind.i64.wrap ((len0 : Int).tmod ((l.length : Int) + 1)) = (K : Int) := by rw [Int.tmod_eq_emod_of_nonneg (by omega), eK]; exact IntWalk.i64_in _ (by omega)
      have HKK := Lib.hid hK
      clear hK
      have k0 : (0 : Int) ≤ (K : Int) := by omega
      have k1 : (K : Int) ≤ (l.length : Int) := by omega
      have k2 : (K : Int) ≤ (d : Int) := by omega
      have hs : IntKind.i64.wrap (K : Int) = (K : Int) := IntWalk.i64_in _ (by omega)
      obtain ⟨q, hq⟩ : ∃ q, q = l.take K := ⟨_, rfl⟩
      have hql : q.length = K := by rw [hq, List.length_take]; omega
      have HQ := Lib.hid (And.intro hq hql)
      have HQM := Lib.hid (show ∀ x ∈ q, x.l.length ≤ 1048576 from fun x hx => HM.out x (List.mem_of_mem_take (hq ▸ hx)))
      have hq0 : 0 ≤ l.length := Nat.zero_le _
      clear hq hql
      go_wp2_with fail
      have hs := ag_I b d q w7 (by rw [HQ.out.1]; exact nt_take H7.out.2.1 K)
      rw [HQ.out.2] at hs
      refine hs.mono ?_
      clear hs
      rintro e w8 ⟨a3, c3, rfl, hg, ho⟩
      have hcap3 := (cap_any ho).1
      obtain ⟨Q, hQ⟩ : ∃ Q, Q = againN q := ⟨_, rfl⟩
      rw [← hQ] at ho hcap3
      rw [← hQ]
      have HU := Lib.hid (show ∃ r, A = Q ++ r by rw [HG.out.2, hQ, HQ.out.1]; exact again_up HP.out K)
      have hQl : Q.length ≤ A.length := by obtain ⟨r, hr⟩ := HU.out; rw [hr, List.length_append]; omega
      clear hQ
      have H8 := Lib.hid (And.intro (grownBy_trans H7.out.1 hg) (And.intro (H7.out.2.1.kept hg) (And.intro (H7.out.2.2.kept hg) (i_own ho))))
      clear hg ho H7
      go_wp2_with fail
      have hs := good_I b d q w8 (by rw [HQ.out.1]; exact nt_take H8.out.2.1 K)
      rw [HQ.out.2] at hs
      refine hs.mono ?_
      clear hs
      rintro e w9 ⟨rfl, hg⟩
      obtain ⟨G2, hG2⟩ : ∃ G2, G2 = goodN q := ⟨_, rfl⟩
      rw [← hG2]
      have hle : G2 ≤ G := by rw [HG.out.1, hG2, HQ.out.1]; exact good_up HP.out K
      clear hG2
      have H9 := Lib.hid (And.intro (grownBy_trans H8.out.1 hg) (And.intro (H8.out.2.2.1.kept hg) (H8.out.2.2.2.kept hg)))
      clear hg H8
      have q1 : (Q.length : Int) ≤ (A.length : Int) := by omega
      have q0 : (0 : Int) ≤ (Q.length : Int) := by omega
      have q2 : (Q.length : Int) ≤ (c1 : Int) := by omega
      rcases HO.out with ⟨rfl, rfl, e0⟩ | ⟨g, rfl⟩
      · obtain rfl : A = [] := List.length_eq_zero_iff.mp e0
        obtain rfl : Q = [] := List.length_eq_zero_iff.mp (by simpa using hQl)
        clear e0
        go_wp2_with fail
        refine (same_ints _ _ _ _ [] _ H9.out.2.2 (i_take H9.out.2.1 HU.out.choose_spec) (by simp)).mono ?_
        rintro e wa ⟨rfl, hg⟩
        have HX := Lib.hid (grownBy_trans H9.out.1 hg)
        clear hg H9
        go_wp2_with fail
        go_ret
        exact ⟨rfl, below_new HX.out⟩
      · go_wp2_with fail
        refine (same_ints _ _ _ _ Q _ H9.out.2.2 (i_take H9.out.2.1 HU.out.choose_spec) (by omega)).mono ?_
        rintro e wa ⟨rfl, hg⟩
        have HX := Lib.hid (grownBy_trans H9.out.1 hg)
        clear hg H9
        go_wp2_with fail
        go_ret
        exact ⟨rfl, below_new HX.out⟩
    · rw [decide_eq_false hp]
      clear hp
      go_wp2_with fail
      refine (good_S _ _ _ _ H7.out.2.1 (by omega) HM.out).mono ?_
      rintro e w8 ⟨rfl, hg⟩
      rw [← HG.out.1]
      have H8 := Lib.hid (And.intro (grownBy_trans H7.out.1 hg) (And.intro (H7.out.2.1.kept hg) (H7.out.2.2.kept hg)))
      clear hg H7
      go_wp2_with fail
      refine (ag_S _ _ _ _ H8.out.2.1 (by omega) HM.out).mono ?_
      rintro e w9 ⟨a9, c9, rfl, hg, ho⟩
      rw [← HG.out.2] at ho
      rw [← HG.out.2]
      have H9 := Lib.hid (And.intro (grownBy_trans H8.out.1 hg) (And.intro (H8.out.2.2.kept hg) (i_own ho)))
      clear hg ho H8
      go_wp2_with fail
      refine (same_ints _ _ _ _ A _ H9.out.2.1 H9.out.2.2 (by omega)).mono ?_
      rintro e w10 ⟨rfl, hg⟩
      have HX := Lib.hid (grownBy_trans H9.out.1 hg)
      clear hg H9
      go_wp2_with fail
      go_ret
      exact ⟨rfl, below_new HX.out⟩

set_option maxRecDepth 100000 in

theorem lifted (os : Os) (started : os.Started) (H : Type) (enc : TypeId × Value → H) :
    ReturnsInHanded {} Try.checked os 3 .any (Rows.fnGoodputUpSpec.pre6 enc Try.prog Try.f3 Rows.fnGoodputUpRow.domain false) (Rows.fnGoodputUpSpec.post enc Try.prog Try.f3 false true false false) := by
  refine returnsInHanded_of_change (C := Try.checked) own started (by kernel_rfl) Try.func3
    (ChangeSpec.witness6 (enc := enc) (C := Try.checked) false ⟨#[], #[.slice none 0 0], []⟩ 8 (by kernel_rfl) (by kernel_rfl) (by kernel_rfl) (by kernel_rfl)) ?_
  intro W base args ds gs before hval0 hW hcnd _
  have hval : ∀ (j : Nat) t v, Try.f3.params[j]? = some t → args[j]? = some v → Value.okWide Try.prog W .any base t v := hval0
  have hW' := hW
  obtain ⟨p, q, hA0, hV, rfl, hfz, hnd⟩ := hW
  have hA : DataW.TrodAll enc Try.prog W 0 (fun _ => true) true Try.f3.params.toList args.toList ds p := hA0
  rw [Try.params3] at hA hval
  obtain ⟨v0, vs0, d0, ds0, p0, q0, hargs, rfl, rfl, h0, r0⟩ := trodAll_cons hA
  obtain ⟨rfl, rfl, rfl⟩ := trodAll_nil r0
  obtain rfl : args = #[v0] := by cases args; simp_all
  obtain ⟨rfl, rfl⟩ := trodVars_none hV
  have k0 := h0
  have lt0 : ∀ x ∈ p0, x.block < W.heap.size := by obtain ⟨m, hm⟩ := k0; exact DataW.trod_lt m _ _ _ hm
  obtain ⟨a0, len0, cap0, rfl⟩ := okWide_slice Try.underlying22 (hval 0 22 v0 rfl rfl)
  obtain ⟨z0, w0⟩ : ∃ zs, IsRow .u8 W a0 len0 cap0 zs := by
    obtain ⟨fuel, hf⟩ := h0
    rcases open_ints Try.underlying22 Try.underlying5 (by kernel_rfl) hf with ⟨hcs, _⟩ | ⟨x, l, c, zs, hcs, _, hl, hm, hz, _, hcell, hwz⟩
    · simp [Value.cells] at hcs
      obtain ⟨rfl, rfl, rfl⟩ := hcs
      exact ⟨[], .inl ⟨rfl, rfl, rfl, rfl⟩⟩
    · simp [Value.cells] at hcs
      obtain ⟨rfl, rfl, rfl⟩ := hcs
      exact ⟨zs, .inr ⟨_, rfl, hl, hm, by simpa using hz, hcell, hwz⟩⟩
  clear hA0 hval0
  refine (walk a0 len0 cap0 z0 W w0).mono fun e W' ⟨he, bel⟩ => ?_
  subst he
  exact ⟨_, rfl, _, _, _, [], _, [], hW', trodAll_mk1 (shut_bool Try.underlying4 _), (trodAll_cons_mk (Below.trod laidOut (by kernel_rfl) (of_decide_eq_true (by kernel_rfl)) k0 bel lt0) trodAll_mk0), rfl, bel.frame _, fun h => by cases h⟩

theorem over : Rows.fnGoodputUpRow.holds Try.pinned (OpenSpec.ofChange Rows.fnGoodputUpSpec) :=
  OpenClaim.holds_of_wide 3 Try.f3 rfl rfl rfl rfl rfl rfl rfl ⟨rfl, rfl, rfl, rfl, rfl⟩ rfl rfl rfl rfl rfl (by kernel_rfl) Try.func3 (by kernel_rfl)
    (of_decide_eq_true (by kernel_rfl)) (by unfold Func.isWrapper; first | (rw [if_pos (by decide +kernel)]; kernel_rfl) | (rw [if_neg (by decide +kernel)]; exact ⟨rfl, rfl⟩))
    (fun os started H enc _ => lifted os started H enc)

theorem proved : Rows.FnGoodputUpSaid := over
end Go.Proofs.Ytedhemllgpbheaa.fnGoodputUp

