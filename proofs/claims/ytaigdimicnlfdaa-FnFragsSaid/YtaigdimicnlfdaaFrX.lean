/- Whether fragments are right, where they end, what they make when added one by one: the program's. -/
import Derived.Test.YtaigdimicnlfdaaFrW
import Derived.Test.YtaigdimicnlfdaaPcKn
namespace Go.Proofs.Ytaigdimicnlfdaa
open Go.RowKit Go.Maps

set_option maxRecDepth 100000 in
theorem piece_I (x : Fg) (w : World) (h : frG x) : Calls Try.prog 28 #[fgA x] w fun e w' => e = .returned (.agg #[.int .i64 (8 * x.f), .string ⟨x.d.toArray⟩]) ∧ w.grownBy w' none := by
  obtain ⟨h1, h2, h3, h4, _⟩ := h
  have hw : IntKind.i64.wrap (x.f * 8) = 8 * x.f := by rw [Int.mul_comm]; exact IntWalk.i64_in _ (by omega)
  go_enter Try.func28, Try.ntmps28
  go_wp2_with fail
  refine bodyPost_ret (v := .agg #[.int .i64 (8 * x.f), .string ⟨x.d.toArray⟩]) (by simp [results, Try.results28, go_sem]) rfl ⟨rfl, ?_⟩
  exact grownBy_trans (World.grownBy_alloc _ _ _) (World.grownBy_alloc _ _ _)

set_option maxRecDepth 100000 in
theorem end_I (p : Int) (d : List UInt8) (w : World) (h : 0 ≤ p ∧ p ≤ 100000) (hd : d.length ≤ 100000) : Calls Try.prog 29 #[.agg #[.int .i64 p, .string ⟨d.toArray⟩]] w fun e w' => e = .returned (.int .i64 (p + d.length)) ∧ w.grownBy w' none := by
  have hw : IntKind.i64.wrap (p + (d.length : Int)) = p + d.length := IntWalk.i64_in _ (by omega)
  go_enter Try.func29, Try.ntmps29
  go_wp2_with fail
  go_ret
  exact ⟨rfl, World.grownBy_alloc _ _ _⟩

def OkRel (w : World) (l : List Fg) (i : Value) (wr : World) : Prop := ∃ k : Nat, k ≤ l.length ∧ i = .int .i64 k ∧ (∀ x ∈ l.take k, frG x) ∧ w.grownBy wr none

theorem take_all {l : List Fg} {P : Fg → Prop} {k : Nat} (h : ∀ x ∈ l.take k, P x) (hk : k < l.length) (hx : P l[k]) : ∀ x ∈ l.take (k + 1), P x := by
  rw [List.take_succ_eq_append_getElem hk]
  intro x hm
  rcases List.mem_append.mp hm with hm | hm
  · exact h x hm
  · obtain rfl := List.mem_singleton.mp hm
    exact hx

set_option maxRecDepth 100000 in
set_option maxHeartbeats 1000000 in
theorem all_I (a : Option Addr) (c : Nat) (l : List Fg) (w : World) (h : FgAt w a l) (hl : (l.length : Int) ≤ 9223372036854775807) (hd : ∀ x ∈ l, x.d.length ≤ 9223372036854775807) : Calls Try.prog 22 #[.slice a l.length c] w fun e w' => (∃ b, e = .returned (.bool b) ∧ (b = true ↔ l.length ≤ 200 ∧ ∀ x ∈ l, frG x)) ∧ w.grownBy w' none := by
  have H := Lib.hid h
  clear h
  by_cases h200 : 200 < l.length
  · have h2 : (200 : Int) < (l.length : Int) := by omega
    go_enter Try.func22, Try.ntmps22
    go_wp2_with fail
    go_ret
    exact ⟨⟨false, rfl, by simp; omega⟩, World.grownBy.refl _ _⟩
  · have h2 : ¬ (200 : Int) < (l.length : Int) := by omega
    go_enter Try.func22, Try.ntmps22
    go_wp2_with fail
    go_loopw [4, 10] (fun s4 i wr => OkRel w l i wr) (fun _ i _ => l.length - (intOf i).toNat)
    case atStart => exact ⟨0, Nat.zero_le _, rfl, by simp, World.grownBy.refl _ _⟩
    case round =>
      obtain ⟨k, hk, rfl, hr, hg⟩ := hrel
      have HS := Lib.hid (And.intro hr hg)
      clear hr hg
      by_cases hlt : k < l.length
      · rcases H.out.kept HS.out.2 with h0 | ⟨b, off, rfl, hbb, hc⟩
        · rw [h0] at hlt
          simp at hlt
        · obtain ⟨c0, c1, c2⟩ := hc k hlt
          have HN := Lib.hid (take_all HS.out.1 hlt)
          have hdx := hd l[k] (List.getElem_mem hlt)
          have HM := Lib.hid (List.getElem_mem hlt)
          clear hc hbb
          generalize l[k] = x at *
          have hlt' : (k : Int) < (l.length : Int) := by omega
          have hk0 : (0 : Int) ≤ (k : Int) := by omega
          have gA := Lib.hid (World.grownBy_alloc wr (.cells #[.int .i64 x.f, .bool x.m, .string ⟨x.d.toArray⟩] 30) none)
          go_wp2_with fail
          refine (fr_I _ _ _ _ hdx).mono ?_
          rintro e w5 ⟨rfl, hg⟩
          have H5 := Lib.hid (grownBy_trans HS.out.2 (grownBy_trans gA.out hg))
          clear hg
          by_cases hf : frG x
          · rw [decide_eq_true hf]
            have HF := Lib.hid hf
            clear hf
            go_wp2_with fail
            go_roundw
            case rel => exact ⟨k + 1, hlt, by go_num, HN.out HF.out, H5.out⟩
            case measure => simp [intOf]; omega
          · rw [decide_eq_false hf]
            have HF := Lib.hid hf
            clear hf
            go_wp2_with fail
            go_ret
            exact ⟨⟨false, rfl, by simp only [Bool.false_eq_true, false_iff]; exact fun hh => HF.out (hh.2 x HM.out)⟩, H5.out⟩
      · obtain rfl : k = l.length := by omega
        rw [List.take_length] at HS
        go_wp2_with fail
        go_ret
        exact ⟨⟨true, rfl, by simp only [true_iff]; exact ⟨by omega, HS.out.1⟩⟩, HS.out.2⟩

/-- Where those without More end, up to a place. -/
def EndTo (l : List Fg) (e : Int) : Prop := (e = 0 ∧ ∀ x ∈ l, x.m = true) ∨ (0 < e ∧ (∃ x ∈ l, x.m = false) ∧ ∀ x ∈ l, x.m = false → endX x = e)
def EnRel (w : World) (l : List Fg) (s4 i : Value) (wr : World) : Prop := ∃ (k : Nat) (e : Int), k ≤ l.length ∧ i = .int .i64 k ∧ s4 = .int .i64 e ∧ EndTo (l.take k) e ∧ w.grownBy wr none

theorem end_skip {l : List Fg} {k : Nat} {e : Int} (h : EndTo (l.take k) e) (hk : k < l.length) (hm : (l[k]).m = true) : EndTo (l.take (k + 1)) e := by
  rcases h with ⟨h1, h2⟩ | ⟨h1, ⟨x, hx, hxm⟩, h2⟩
  · exact .inl ⟨h1, take_all h2 hk hm⟩
  · refine .inr ⟨h1, ⟨x, ?_, hxm⟩, take_all h2 hk (fun hf => by rw [hm] at hf; cases hf)⟩
    rw [List.take_succ_eq_append_getElem hk]
    exact List.mem_append.mpr (.inl hx)

theorem end_put {l : List Fg} {k : Nat} {e : Int} (h : EndTo (l.take k) e) (hk : k < l.length) (hm : (l[k]).m = false) (hp : 0 < endX l[k]) (he : e = 0 ∨ e = endX l[k]) : EndTo (l.take (k + 1)) (endX l[k]) := by
  have hmem : l[k] ∈ l.take (k + 1) := by
    rw [List.take_succ_eq_append_getElem hk]
    exact List.mem_append.mpr (.inr (List.mem_singleton.mpr rfl))
  refine .inr ⟨hp, ⟨_, hmem, hm⟩, take_all ?_ hk (fun _ => rfl)⟩
  rcases h with ⟨h1, h2⟩ | ⟨h1, _, h2⟩
  · intro x hx hxm
    rw [h2 x hx] at hxm
    cases hxm
  · rcases he with he | he
    · omega
    · rw [← he]; exact h2

theorem end_bad {l : List Fg} {k : Nat} {e : Int} (h : EndTo (l.take k) e) (hk : k < l.length) (hm : (l[k]).m = false) (h0 : e ≠ 0) (he : e ≠ endX l[k]) : ∀ E, ¬ EndTo l E ∨ E = 0 := by
  intro E
  by_cases hE : E = 0
  · exact .inr hE
  · refine .inl fun k2 => ?_
    rcases k2 with ⟨h1, _⟩ | ⟨_, _, h2⟩
    · exact hE h1
    · rcases h with ⟨h1, _⟩ | ⟨_, ⟨x, hx, hxm⟩, h3⟩
      · exact h0 h1
      · have a1 := h2 x (List.mem_of_mem_take hx) hxm
        have a2 := h3 x hx hxm
        have a3 := h2 l[k] (List.getElem_mem hk) hm
        omega

def FePost (w : World) (l : List Fg) (e : Ending) (w' : World) : Prop :=
  (∃ (E : Int) (b : Bool), e = .returned (.tuple #[.int .i64 E, .bool b]) ∧ (b = true → 0 < E ∧ EndTo l E) ∧ (b = false → ∀ E, 0 < E → ¬ EndTo l E)) ∧ w.grownBy w' none

set_option maxRecDepth 100000 in
set_option maxHeartbeats 1500000 in
theorem fend_I (a : Option Addr) (c : Nat) (l : List Fg) (w : World) (h : FgAt w a l) (hl : l.length ≤ 200) (hq : ∀ x ∈ l, frG x) : Calls Try.prog 23 #[.slice a l.length c] w (FePost w l) := by
  have H := Lib.hid h
  clear h
  go_enter Try.func23, Try.ntmps23
  go_wp2_with fail
  go_loopw [4, 6, 7, 10] (fun s4 s6 s7 i wr => EnRel w l s4 i wr) (fun _ _ _ i _ => l.length - (intOf i).toNat)
  case atStart => exact ⟨0, 0, Nat.zero_le _, rfl, rfl, .inl ⟨rfl, by simp⟩, World.grownBy.refl _ _⟩
  case round =>
    obtain ⟨k, E, hk, rfl, rfl, hr, hg⟩ := hrel
    have HS := Lib.hid (And.intro hr hg)
    clear hr hg
    by_cases hlt : k < l.length
    · rcases H.out.kept HS.out.2 with h0 | ⟨b, off, rfl, hbb, hc⟩
      · rw [h0] at hlt
        simp at hlt
      · obtain ⟨c0, c1, c2⟩ := hc k hlt
        have HQ := Lib.hid (hq l[k] (List.getElem_mem hlt))
        have H1 := Lib.hid (end_skip HS.out.1 hlt)
        have H2 := Lib.hid (end_put HS.out.1 hlt)
        have H3 := Lib.hid (end_bad HS.out.1 hlt)
        clear hc hbb
        generalize l[k] = x at *
        have hlt' : (k : Int) < (l.length : Int) := by omega
        have hk0 : (0 : Int) ≤ (k : Int) := by omega
        have gA := Lib.hid (World.grownBy_alloc wr (.cells #[.int .i64 x.f, .bool x.m, .string ⟨x.d.toArray⟩] 30) none)
        obtain ⟨f, m, d⟩ := x
        dsimp only at c0 c1 c2 gA
        cases m
        · go_wp2_with fail
          refine (piece_I ⟨f, false, d⟩ _ HQ.out).mono ?_
          rintro e w5 ⟨rfl, hg⟩
          have H5 := Lib.hid (grownBy_trans HS.out.2 (grownBy_trans gA.out hg))
          clear hg
          have hb := HQ.out
          go_wp2_with fail
          refine (end_I _ _ _ (by obtain ⟨b1, b2, b3, b4, _⟩ := hb; dsimp only at b1 b2; omega) (by obtain ⟨b1, b2, b3, b4, _⟩ := hb; dsimp only at b4; omega)).mono ?_
          rintro e w6 ⟨rfl, hg⟩
          have H6 := Lib.hid (grownBy_trans H5.out hg)
          have hpos : 0 < 8 * f + (d.length : Int) := by obtain ⟨b1, b2, b3, b4, _⟩ := hb; dsimp only at b1 b3; omega
          have HE := Lib.hid (show endX (⟨f, false, d⟩ : Fg) = 8 * f + (d.length : Int) from rfl)
          clear hg hb
          dsimp only at *
          generalize 8 * f + (d.length : Int) = q at *
          by_cases e0 : E = 0
          · have HP := Lib.hid (H2.out trivial (by rw [HE.out]; exact hpos) (.inl e0))
            have he1 : (E != 0) = false := by simp [e0]
            have he2 : (E == 0) = true := by simp [e0]
            clear e0
            go_wp2_with fail
            go_roundw
            case rel => exact ⟨k + 1, q, hlt, by go_num, rfl, by rw [← HE.out]; exact HP.out, H6.out⟩
            case measure => simp [intOf]; omega
          · by_cases e1 : E = q
            · have HP := Lib.hid (H2.out trivial (by rw [HE.out]; exact hpos) (.inr (by rw [HE.out]; exact e1)))
              have he1 : (E != 0) = true := by simp [e0]
              have he2 : (E == 0) = false := by simp [e0]
              have he3 : (E != q) = false := by simp [e1]
              have he4 : (E == q) = true := by simp [e1]
              clear e0 e1
              go_wp2_with fail
              go_roundw
              case rel => exact ⟨k + 1, q, hlt, by go_num, rfl, by rw [← HE.out]; exact HP.out, H6.out⟩
              case measure => simp [intOf]; omega
            · have HP := Lib.hid (H3.out trivial e0 (by rw [HE.out]; exact e1))
              have he1 : (E != 0) = true := by simp [e0]
              have he2 : (E == 0) = false := by simp [e0]
              have he3 : (E != q) = true := by simp [e1]
              have he4 : (E == q) = false := by simp [e1]
              clear e0 e1
              go_wp2_with fail
              go_ret2
              refine ⟨⟨0, false, rfl, by simp, fun _ E hE => ?_⟩, H6.out⟩
              rcases HP.out E with h | h
              · exact h
              · omega
        · go_wp2_with fail
          go_roundw
          case rel => exact ⟨k + 1, E, hlt, by go_num, rfl, H1.out rfl, grownBy_trans HS.out.2 gA.out⟩
          case measure => simp [intOf]; omega
    · obtain rfl : k = l.length := by omega
      rw [List.take_length] at HS
      by_cases e0 : E = 0
      · have he1 : (E != 0) = false := by simp [e0]
        have he2 : (E == 0) = true := by simp [e0]
        have H0 := Lib.hid e0
        clear e0
        go_wp2_with fail
        go_ret2
        refine ⟨⟨E, false, by simp, by simp, fun _ F hF hE => ?_⟩, HS.out.2⟩
        rcases HS.out.1 with ⟨_, h1⟩ | ⟨h1, _⟩
        · rcases hE with ⟨h2, _⟩ | ⟨_, ⟨x, hx, hm⟩, _⟩
          · omega
          · rw [h1 x hx] at hm; cases hm
        · have := H0.out; omega
      · have he1 : (E != 0) = true := by simp [e0]
        have he2 : (E == 0) = false := by simp [e0]
        have H0 := Lib.hid e0
        clear e0
        go_wp2_with fail
        go_ret2
        refine ⟨⟨E, true, by simp, fun _ => ⟨?_, HS.out.1⟩, by simp⟩, HS.out.2⟩
        rcases HS.out.1 with ⟨h1, _⟩ | ⟨h1, _⟩
        · exact absurd h1 H0.out
        · exact h1

end Go.Proofs.Ytaigdimicnlfdaa
