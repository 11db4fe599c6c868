/- Segments compared; the drawings of texts and of segments. -/
import Derived.Test.YthfhffcimjolgaaTcW
import Derived.Test.YthfhffcimjolgaaTcK
import Derived.Test.YthfhffcimjolgaaTcE
import Derived.Test.YthfhffcimjolgaaOffW
namespace Go.Proofs.Ythfhffcimjolgaa
open Go.RowKit

def SrRel (w : World) (n : Nat) (i : Value) (wr : World) : Prop := ∃ j : Nat, j ≤ n ∧ i = .int .i64 j ∧ w.grownBy wr none

set_option maxRecDepth 100000 in
set_option maxHeartbeats 1000000 in
theorem same_ranges (a b : Option Addr) (c d : Nat) (l : List Rg) (w : World) (h : RgAt w a l) (k : RgAt w b l) (hl : l.length ≤ 1048576) : Calls Try.prog 34 #[.slice a l.length c, .slice b l.length d] w fun e w' => e = .returned (.bool true) ∧ w.grownBy w' none := by
  have H := Lib.hid (And.intro h k)
  clear h k
  go_enter Try.func34, Try.ntmps34
  go_wp2_with fail
  go_loopw [5] (fun i wr => SrRel w l.length i wr) (fun i _ => l.length - (intOf i).toNat)
  case atStart => exact ⟨0, Nat.zero_le _, rfl, World.grownBy.refl _ _⟩
  case round =>
    obtain ⟨j, hj, rfl, hg⟩ := hrel
    have HS := Lib.hid hg
    clear hg
    by_cases hlt : j < l.length
    · rcases (H.out.1.kept HS.out) with h0 | ⟨b1, off1, rfl, hb1, hc⟩
      · rw [h0] at hlt
        simp at hlt
      · rcases (H.out.2.kept HS.out) with h0 | ⟨b2, off2, rfl, hb2, hd⟩
        · rw [h0] at hlt
          simp at hlt
        · obtain ⟨c0, c1⟩ := hc j hlt
          obtain ⟨d0, d1⟩ := hd j hlt
          clear hc hd
          generalize l[j] = x at *
          obtain ⟨t, m⟩ := x
          dsimp only at c0 c1 d0 d1
          have hlt' : (j : Int) < (l.length : Int) := by omega
          have hj0 : (0 : Int) ≤ (j : Int) := by omega
          go_wp2_with fail
          go_quiet (fail)
          go_wp2_with fail
          go_roundw
          case rel => exact ⟨j + 1, hlt, by go_num, gD HS.out _⟩
          case measure => simp [intOf]; omega
    · obtain rfl : j = l.length := by omega
      go_wp2_with fail
      go_ret
      exact ⟨rfl, HS.out⟩

set_option maxRecDepth 100000 in
set_option maxHeartbeats 2000000 in
theorem same_tcp (f o s k g n : Int) (a b : Option Addr) (c e : Nat) (l : List Rg) (d : List UInt8) (w : World) (h : RgAt w a l) (h' : RgAt w b l) (hl : l.length ≤ 1048576) :
    Calls Try.prog 12 #[tcpV f o s k g n a c l d, tcpV f o s k g n b e l d] w fun e w' => e = .returned (.bool true) ∧ w.grownBy w' none := by
  have HH := Lib.hid (And.intro h h')
  clear h h'
  go_enter Try.func12, Try.ntmps12
  have e0 : (f == f) = true := by simp
  have e1 : (o == o) = true := by simp
  have e2 : (s == s) = true := by simp
  have e3 : (k == k) = true := by simp
  have e4 : (g == g) = true := by simp
  have e5 : (n == n) = true := by simp
  have hg1 := World.grownBy_alloc w (.cells #[.int .i64 f, .int .i64 o, .int .i64 s, .int .i64 k, .int .i64 g, .int .i64 n, .slice a l.length c, .string ⟨d.toArray⟩] 26) none
  have hg2 := grownBy_trans hg1 (World.grownBy_alloc (w.alloc (.cells #[.int .i64 f, .int .i64 o, .int .i64 s, .int .i64 k, .int .i64 g, .int .i64 n, .slice a l.length c, .string ⟨d.toArray⟩] 26)) (.cells #[.int .i64 f, .int .i64 o, .int .i64 s, .int .i64 k, .int .i64 g, .int .i64 n, .slice b l.length e, .string ⟨d.toArray⟩] 26) none)
  have HG := Lib.hid hg2
  clear hg1 hg2
  go_wp2_with fail
  refine (same_ranges a b c e l _ (HH.out.1.kept HG.out) (HH.out.2.kept HG.out) hl).mono ?_
  rintro e w1 ⟨rfl, hg⟩
  have H1 := Lib.hid (grownBy_trans HG.out hg)
  clear hg
  go_wp2_with fail
  go_ret
  exact ⟨rfl, H1.out⟩

def DrPost (w : World) (e : Ending) (w' : World) : Prop :=
  ∃ (b : Int) (u : List UInt8), e = .returned (.tuple #[.int .i64 167772161, .int .i64 b, .string ⟨u.toArray⟩]) ∧ w.grownBy w' none ∧ (0 ≤ b ∧ b < 4294967296) ∧ u.length ≤ 249 ∧ (segSum 167772161 b u = 0 → 20 ≤ u.length → 0 ≤ fG u ∧ fG u ≤ 63)
theorem tcpL_len (a b f o s k g n : Int) (l : List Rg) (d : List UInt8) : (tcpL a b f o s k g n l d).length ≤ 248 := by
  unfold tcpL
  split
  · rename_i h; exact (seg_zero a b f o s k g n l d h).2.1
  · simp
theorem dr_plain (a b f o s k g n : Int) (l : List Rg) (d : List UInt8) : 20 ≤ (tcpL a b f o s k g n l d).length → 0 ≤ fG (tcpL a b f o s k g n l d) ∧ fG (tcpL a b f o s k g n l d) ≤ 63 := by
  unfold tcpL
  split
  · rename_i h
    intro _
    rw [(seg_read h (seg_sum0 h)).2.2.2.2.2.1]
    exact ⟨h.2.2.1.2.2.2.2.2.2.2.2.1, h.2.2.1.2.2.2.2.2.2.2.2.2.1⟩
  · intro h; simp at h
theorem dr_hurt {a b f o s k g n : Int} {l : List Rg} {d u : List UInt8} (hu : HurtOf (tcpL a b f o s k g n l d) u) : u.length ≤ 249 ∧ (segSum a b u = 0 → 20 ≤ u.length → 0 ≤ fG u ∧ fG u ≤ 63) := by
  have hl := tcpL_len a b f o s k g n l d
  have hul : u.length ≤ (tcpL a b f o s k g n l d).length + 1 := by
    rcases hu with ⟨j, rfl⟩ | ⟨j, y, _, rfl⟩ | ⟨z, rfl⟩
    · rw [List.length_take]; omega
    · rw [List.length_set]; omega
    · simp
  refine ⟨by omega, fun hz h20 => ?_⟩
  unfold tcpL at hu hul
  split at hu
  · rename_i h
    exact hurt_flags h hu hz h20
  · rename_i h
    rw [if_neg h] at hul
    simp at hul
    omega

set_option maxRecDepth 100000 in
set_option maxHeartbeats 4000000 in
theorem draw_read (p : Option Addr) (n0 c0 : Nat) (w : World) (h : CodeIn w p n0) : Calls Try.prog 7 #[.slice p n0 c0] w (DrPost w) := by
  have H := Lib.hid h
  clear h
  go_enter Try.func7, Try.ntmps7
  go_wp2_with fail
  refine (open_any _ _ _ _ H.out).mono ?_
  rintro e w1 ⟨rfl, hg, hr⟩
  have H1 := Lib.hid (And.intro hg hr)
  clear hg hr H
  go_wp2_with fail
  refine (tcp_draw _ _ H1.out.2).mono ?_
  rintro e w2 ⟨f, o, s, k, g, n, a, c, l, d, rfl, hl, hg, hr, ho⟩
  have H2 := Lib.hid (And.intro (grownBy_new H1.out.1 hg (Nat.le_refl _)) (And.intro hr (t_at ho)))
  have hlm : l.length ≤ maxLen := by unfold maxLen; omega
  clear hg hr ho hl H1
  have hk := And.intro (gA H2.out.1 (.cells #[.int .i64 f, .int .i64 o, .int .i64 s, .int .i64 k, .int .i64 g, .int .i64 n, .slice a l.length c, .string ⟨d.toArray⟩] 26)) (And.intro (H2.out.2.1.alloc (.cells #[.int .i64 f, .int .i64 o, .int .i64 s, .int .i64 k, .int .i64 g, .int .i64 n, .slice a l.length c, .string ⟨d.toArray⟩] 26)) (And.intro (H2.out.2.2.kept (World.grownBy_alloc w2 (.cells #[.int .i64 f, .int .i64 o, .int .i64 s, .int .i64 k, .int .i64 g, .int .i64 n, .slice a l.length c, .string ⟨d.toArray⟩] 26) none)) (Bx.new w2 26 #[.int .i64 f, .int .i64 o, .int .i64 s, .int .i64 k, .int .i64 g, .int .i64 n, .slice a l.length c, .string ⟨d.toArray⟩])))
  have H3 := Lib.hid hk
  clear hk H2
  go_upto_region 3 with fail
  generalize w2.alloc (.cells #[.int .i64 f, .int .i64 o, .int .i64 s, .int .i64 k, .int .i64 g, .int .i64 n, .slice a l.length c, .string ⟨d.toArray⟩] 26) = w3 at *
  generalize w2.heap.size = B at *
  go_wp2_with (refine wpList_load_row rfl 26 _ rfl B rfl 26 _ (0, 0) _ H3.out.2.2.2 Try.underlying26 rfl info_t ?_)
  refine (tcp_spec 167772161 167772162 f o s k g n a c l d w3 H3.out.2.2.1 hlm).mono ?_
  rintro e w4 ⟨rfl, hg⟩
  have H4 := Lib.hid (And.intro (grownBy_trans H3.out.1 hg) (H3.out.2.1.kept hg (by simp) (by simp)))
  have HL := Lib.hid (tcpL_len 167772161 167772162 f o s k g n l d)
  have HP := Lib.hid (dr_plain 167772161 167772162 f o s k g n l d)
  have HU := Lib.hid (fun u (hu : HurtOf (tcpL 167772161 167772162 f o s k g n l d) u) => dr_hurt hu)
  clear hg H3
  generalize tcpL 167772161 167772162 f o s k g n l d = T at *
  go_wp2_with fail
  refine (once_any _ _ _ H4.out.2 (by omega) (by omega)).mono ?_
  rintro e w5 ⟨b1, rfl, hg, hr⟩
  have H5 := Lib.hid (And.intro (grownBy_new H4.out.1 hg (Nat.le_refl _)) hr)
  clear hg hr H4
  cases b1
  · go_wp2_with fail
    refine (once_any _ _ _ H5.out.2 (by omega) (by omega)).mono ?_
    rintro e w6 ⟨b2, rfl, hg, hr⟩
    have H6 := Lib.hid (And.intro (grownBy_new H5.out.1 hg (Nat.le_refl _)) hr)
    clear hg hr H5
    cases b2
    · go_wp2_with fail
      refine (hurt_of _ T _ H6.out.2 (by have := HL.out; omega)).mono ?_
      rintro e w7 ⟨u, hu, rfl, hg, hr⟩
      have H7 := Lib.hid (grownBy_new H6.out.1 hg (Nat.le_refl _))
      have HX := Lib.hid (HU.out u hu)
      clear hg hr hu H6
      go_wp2_with fail
      refine bodyPost_ret (v := .tuple #[.int .i64 167772161, .int .i64 167772162, .string ⟨u.toArray⟩]) (by simp [results, Try.results7]) rfl ?_
      exact ⟨167772162, u, rfl, H7.out, by omega, HX.out.1, HX.out.2⟩
    · go_wp2_with fail
      refine bodyPost_ret (v := .tuple #[.int .i64 167772161, .int .i64 167772163, .string ⟨T.toArray⟩]) (by simp [results, Try.results7]) rfl ?_
      exact ⟨167772163, T, rfl, H6.out.1, by omega, by have := HL.out; omega, fun _ => HP.out⟩
  · go_wp2_with fail
    refine bodyPost_ret (v := .tuple #[.int .i64 167772161, .int .i64 167772162, .string ⟨T.toArray⟩]) (by simp [results, Try.results7]) rfl ?_
    exact ⟨167772162, T, rfl, H5.out.1, by omega, by have := HL.out; omega, fun _ => HP.out⟩

end Go.Proofs.Ythfhffcimjolgaa
