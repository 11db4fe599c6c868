/- Boards: the drawing of a board and of ranges that may be told. -/
import Derived.Test.YtedgfiagefhahaaBdV
import Derived.LoopTactic
namespace Go.Proofs.Ytedgfiagefhahaa
open Go.RowKit

theorem Dr.row2 {w W W2 : World} {E : Nat} {u n : Int} {ao : Option Addr} {cc : Nat} {l : List Rg} {o : Option Nat} (k : Dr w E u n ao cc l W) (hg : W.grownBy W2 o) (ho : ∀ b, o = some b → E + 1 ≤ b) (hf : ∀ g, Value.ownBlock (.slice ao l.length cc) = some g → g < E) : Dr w E u n ao cc l W2 := by
  cases o with
  | none => exact k.keep hg
  | some b =>
    have hb := ho b rfl
    have h1 := k.lt
    exact ⟨grownBy_new k.g hg (by omega), k.rd.kept hg (by simp; omega) (fun x e => by cases e; omega), k.res.kept hg (by simp; omega), own_far k.row hg (fun g hv => by have := hf g hv; simp; omega), k.box.kept hg (by simp; omega), k.lt⟩
def DsRel (w : World) (E : Nat) (u n : Int) (ao : Option Addr) (cc : Nat) (l : List Rg) (v i : Value) (wr : World) : Prop :=
  ∃ (j : Nat) (t : List Rg), j + t.length ≤ 2 ∧ i = .int .i64 (j : Nat) ∧ wr.ownsRow (E + 1) 40 2 v t.length (rgsV t) ∧ Dr w E u n ao cc l wr ∧ v ≠ .slice none 0 0
def Db3Post (w : World) (e : Ending) (w' : World) : Prop :=
  ∃ (u n : Int) (a : Option Addr) (c : Nat) (l : List Rg) (b ct : Nat) (t : List Rg), e = .returned (.tuple #[bdV u n a l.length c, .slice (some ⟨b, 0, none⟩) t.length ct]) ∧ t.length ≤ 2 ∧ t.length ≤ ct ∧ ct ≤ maxLen ∧ Dbd w u n a c l w' ∧ OwnRg w' w.heap.size (some ⟨b, 0, none⟩) ct t

set_option maxRecDepth 100000 in
set_option maxHeartbeats 4000000 in
theorem draw_bsack (a : Option Addr) (n0 c : Nat) (w : World) (h : CodeIn w a n0) : Calls Try.prog 21 #[.slice a n0 c] w (Db3Post w) := by
  obtain ⟨i0, hi, hz0, hz1, hz2⟩ := info_of infoRg
  have H := Lib.hid h
  clear h
  go_enter Try.func21, Try.ntmps21
  go_wp2_with fail
  refine (open_any _ _ _ _ (H.out.kept (World.grownBy_alloc _ _ _))).mono ?_
  rintro e w1 ⟨rfl, hg, hr⟩
  simp only [World.size_alloc] at hr
  have H1 := Lib.hid (And.intro (grownBy_trans (World.grownBy_alloc w (.cells #[.int .i64 0, .int .i64 0, .slice none 0 0] 26) none) hg) (And.intro hr ((Bx.new w 26 #[.int .i64 0, .int .i64 0, .slice none 0 0]).keep hg)))
  clear hg hr
  go_wp2_with fail
  refine (board_draw _ _ H1.out.2.1).mono ?_
  rintro e w2 ⟨u, n, ao, cc, l, rfl, u0, u1, ul, hg, hr, ho⟩
  have hge : w.heap.size + 1 ≤ w1.heap.size := H1.out.2.2.lt
  have FA := Lib.hid (fun g hv => (own_in ho g hv).2)
  have H2 := Lib.hid (And.intro (grownBy_new H1.out.1 hg (by omega)) (And.intro hr (And.intro (H1.out.2.2.kept hg (by simp)) (own_base ho H1.out.2.1.lt))))
  clear hg hr ho
  have hge2 : w.heap.size + 2 ≤ w1.heap.size := H1.out.2.1.lt
  have HD := Lib.hid (And.intro (show Dr w w2.heap.size u n ao cc l (w2.alloc (.cells #[.int .i64 u, .int .i64 n, .slice ao l.length cc] 26)) from ⟨gA H2.out.1 _, H2.out.2.1.alloc _, H2.out.2.2.1.alloc _, own_base (own_kept H2.out.2.2.2 (World.grownBy_alloc _ _ _)) (Nat.le_refl _), Bx.new _ _ _, H2.out.2.1.lt⟩) (show (w2.alloc (.cells #[.int .i64 u, .int .i64 n, .slice ao l.length cc] 26)).heap.size = w2.heap.size + 1 from World.size_alloc _ _))
  have hw := Lib.hid (And.intro u0 (And.intro u1 (And.intro ul.1 ul.2)))
  clear ul hge hge2 H1 H2 H
  go_wp2_with fail
  generalize hw3 : w2.alloc (.cells #[.int .i64 u, .int .i64 n, .slice ao l.length cc] 26) = w3 at *
  generalize w2.heap.size = E at *
  clear hw3
  have hrow : (w3.alloc (.cells #[] 40)).ownsRow (E + 1) 40 2 (.slice (some ⟨w3.heap.size, 0, none⟩) 0 0) 0 [] := World.ownsRow_lit w3 #[] 0 (by rw [HD.out.2]; exact Nat.le_refl _) (Nat.zero_le _) rfl
  have H4 := Lib.hid (And.intro (HD.out.1.keep (World.grownBy_alloc w3 (.cells #[] 40) none)) hrow)
  clear hrow
  refine (below_any _ _ _ H4.out.1.rd (by omega)).mono ?_
  rintro e w5 ⟨q, q0, q1, rfl, hg, hr⟩
  rw [if_neg (by omega)] at q1
  obtain ⟨j, rfl⟩ := Int.eq_ofNat_of_zero_le q0
  have hj2 : j ≤ 2 := by omega
  have hlt3 := H4.out.1.lt
  have HST := Lib.hid (show DsRel w E u n ao cc l (.slice (some ⟨w3.heap.size, 0, none⟩) 0 0) (.int .i64 (j : Nat)) w5 from ⟨j, [], by simpa using hj2, rfl, H4.out.2.kept hg (.inr (by simp [Value.ownBlock]; have := HD.out.2; omega)), H4.out.1.move hg hr, by simp⟩)
  clear hg hr q0 q1
  go_wp2_with fail
  go_loopw [6, 7] (fun v i wr => DsRel w E u n ao cc l v i wr) (fun _ i _ => (intOf i).toNat)
  case atStart => first | exact HST.out | (have h := HST.out; rw [HD.out.2] at h; exact h)
  case round =>
    clear HST hj2 H4 HD
    obtain ⟨j, t, hj, rfl, hown, hD, hnil⟩ := hrel
    have HS := Lib.hid (And.intro hown hD)
    clear hown hD
    by_cases h0 : j = 0
    · subst h0
      obtain ⟨bb, ct, hv, hle, hmx⟩ : ∃ b c, u6 = .slice (some ⟨b, 0, none⟩) t.length c ∧ t.length ≤ c ∧ c ≤ maxLen := by
        rcases HS.out.1.2 with ⟨hv, _⟩ | ⟨g', cap', cur, hv, _, _, hle, hmx, _⟩
        · exact absurd hv hnil
        · exact ⟨_, _, hv, hle, hmx⟩
      clear hnil
      subst hv
      have bc0 := HS.out.2.box.c 0 (x := .int .i64 u) rfl
      have bc1 := HS.out.2.box.c 1 (x := .int .i64 n) rfl
      have bc2 := HS.out.2.box.c 2 (x := .slice ao l.length cc) rfl
      have z0 := HS.out.2.res.c 0 (x := .int .i64 0) rfl
      have z1 := HS.out.2.res.c 1 (x := .int .i64 0) rfl
      have z2 := HS.out.2.res.c 2 (x := .slice none 0 0) rfl
      have x0 := HS.out.2.res.f 0
      have x1 := HS.out.2.res.f 1
      have x2 := HS.out.2.res.f 2
      have le := HS.out.2.box.lt
      have lr := HS.out.2.res.lt
      have lt := HS.out.2.lt
      have hf : ∀ g, Value.ownBlock (.slice (some ⟨bb, 0, none⟩) t.length ct) = some g → some g ≠ some w.heap.size := fun g hg => by have := HS.out.1.lt g hg; simp; omega
      have hown := own_base (show OwnRg _ (E + 1) (some ⟨bb, 0, none⟩) ct t from HS.out.1) (show w.heap.size ≤ E + 1 by omega)
      have HO := Lib.hid (own_far (own_far (own_far hown (grownBy_set _ w.heap.size 0 (.int .i64 u)) hf) (grownBy_set _ w.heap.size 1 (.int .i64 n)) hf) (grownBy_set _ w.heap.size 2 (.slice ao l.length cc)) hf)
      clear hf hown
      go_wp2_with fail
      exact bodyPost_ret (v := .tuple #[.agg #[.int .i64 u, .int .i64 n, .slice ao l.length cc], .slice (some ⟨bb, 0, none⟩) t.length ct]) (by simp [results, Try.results21, go_sem, z0, z1, z2]) rfl ⟨u, n, ao, cc, l, bb, ct, t, rfl, by omega, hle, hmx, HS.out.2.fin hw.out, HO.out⟩
    · obtain ⟨q, rfl⟩ : ∃ q, j = q + 1 := ⟨j - 1, by omega⟩
      clear h0
      have hnr : u6.ownBlock = none ∨ u6.ownBlock ≠ some (w.heap.size + 1) := by
        by_cases hn : u6.ownBlock = none
        · exact .inl hn
        · refine .inr fun e => ?_
          have := HS.out.1.lt (w.heap.size + 1) e
          have := HS.out.2.lt
          omega
      have HN := Lib.hid hnr
      clear hnr
      have bc0 := HS.out.2.box.c 0 (x := .int .i64 u) rfl
      have bc1 := HS.out.2.box.c 1 (x := .int .i64 n) rfl
      have bc2 := HS.out.2.box.c 2 (x := .slice ao l.length cc) rfl
      go_wp2_with fail
      skip
      refine (off_w (w.heap.size + 1) u n _ HS.out.2.rd ⟨hw.out.1, hw.out.2.1⟩ hw.out.2.2.2.1).mono ?_
      rintro e w6 ⟨x, hk, rfl, hg, hr⟩
      have HT := Lib.hid (And.intro (HS.out.1.kept hg HN.out) (HS.out.2.move hg hr))
      have KX := Lib.hid hk
      clear hk hg hr bc0 bc1 bc2
      have bc0 := HT.out.2.box.c 0 (x := .int .i64 u) rfl
      have bc1 := HT.out.2.box.c 1 (x := .int .i64 n) rfl
      have bc2 := HT.out.2.box.c 2 (x := .slice ao l.length cc) rfl
      go_wp2_with fail
      skip
      refine (off_w (w.heap.size + 1) u n _ HT.out.2.rd ⟨hw.out.1, hw.out.2.1⟩ hw.out.2.2.2.1).mono ?_
      rintro e w7 ⟨y, hk, rfl, hg, hr⟩
      have HU := Lib.hid (And.intro (HT.out.1.kept hg HN.out) (HT.out.2.move hg hr))
      have KY := Lib.hid hk
      clear hk hg hr bc0 bc1 bc2
      go_wp2_with (at_builtin; refine wpList_append_own _ rfl _ _ 24 rfl (E + 1) 40 i0 _ 2 16 Try.underlying24 hi hz0 hz1 hz2 rfl (by decide) _ _ _ rfl (HU.out.1.alloc _) ⟨w7.heap.size, 0, none⟩ 1 1 [.int .i64 x, .int .i64 y] rfl rfl ?c1 ?c2 ?c3 ?c4 ?c5 ?_)
      try (case c1 => exact pair_new w7 _ _ _ _ rfl)
      case c2 => simp [Value.oneCell']
      case c3 => unfold maxLen; omega
      case c4 => omega
      case c5 => have := HU.out.2.box.lt; first | (simp; omega) | omega
      intro v' wz hown1 hg1 hni
      have HW := Lib.hid (show DsRel w E u n ao cc l v' (.int .i64 (q : Nat)) wz from ⟨q, t ++ [(x, y)], by simp; omega, rfl, (by rw [rgsV_snoc, List.length_append, List.length_singleton]; exact hown1), (HU.out.2.keep (World.grownBy_alloc _ _ none)).row2 hg1 (fun b hb => (HU.out.1.lt b hb).1) FA.out, fun e => hni e⟩)
      clear hown1 hg1 hni hnil
      go_wp2_with fail
      go_roundw
      case rel => exact HW.out
      case measure => simp [intOf]

end Go.Proofs.Ytedgfiagefhahaa
