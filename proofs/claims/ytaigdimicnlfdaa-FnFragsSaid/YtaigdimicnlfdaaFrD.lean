/- The drawing of fragments. -/
import Derived.Test.YtaigdimicnlfdaaFrV
import Derived.Test.YtaigdimicnlfdaaDrawB
import Derived.Deep.DeepCutAuto
namespace Go.Proofs.Ytaigdimicnlfdaa
open Go.RowKit Go.Maps

theorem str_x (s : List UInt8) : ({ data := s.toArray } : ByteArray) ++ { data := #[120] } = ⟨(s ++ [120]).toArray⟩ := by
  apply ByteArray.ext
  simp

theorem fr_in {a b c : World} {r X : Nat} (h : a.grownBy b (some r)) (k : b.grownBy c (some X)) (hX : a.heap.size ≤ X) : a.grownBy c (some r) :=
  ⟨k.os.trans h.os, k.tape.trans h.tape, k.output.trans h.output, Nat.le_trans h.size k.size, fun i hi hne => (k.block i (Nat.lt_of_lt_of_le hi h.size) (by simp; omega)).trans (h.block i hi hne)⟩

theorem fgsV_put (l : List Fg) (i : Nat) (h : i < l.length) (x : Fg) : ((((fgsV l).set (i * 3) (.int .i64 x.f)).set (i * 3 + 1) (.bool x.m)).set (i * 3 + 2) (.string ⟨x.d.toArray⟩)) = fgsV (l.set i x) := by
  induction l generalizing i with
  | nil => simp at h
  | cons p l ih =>
    have e : fgsV (p :: l) = .int .i64 p.f :: .bool p.m :: .string ⟨p.d.toArray⟩ :: fgsV l := rfl
    cases i with
    | zero => simp [fgsV, fgV]
    | succ i =>
      have a := ih i (by simpa using h)
      have e2 : fgsV ((p :: l).set (i + 1) x) = .int .i64 p.f :: .bool p.m :: .string ⟨p.d.toArray⟩ :: fgsV (l.set i x) := rfl
      rw [e2, ← a, e, show (i + 1) * 3 = i * 3 + 1 + 1 + 1 from by omega]
      simp

/-- A struct is stored into an owned row. -/
theorem own_put {w : World} {B g c : Nat} {l : List Fg} (h : OwnFg w B (some ⟨g, 0, none⟩) c l) (i : Nat) (hi : i < l.length) (x : Fg) :
    OwnFg (((w.setCell ⟨g, i * 3, none⟩ (.int .i64 x.f)).setCell ⟨g, i * 3 + 1, none⟩ (.bool x.m)).setCell ⟨g, i * 3 + 2, none⟩ (.string ⟨x.d.toArray⟩)) B (some ⟨g, 0, none⟩) c (l.set i x) ∧ w.grownBy (((w.setCell ⟨g, i * 3, none⟩ (.int .i64 x.f)).setCell ⟨g, i * 3 + 1, none⟩ (.bool x.m)).setCell ⟨g, i * 3 + 2, none⟩ (.string ⟨x.d.toArray⟩)) (some g) := by
  have s1 := World.ownsRow.stored h (i * 3) (.int .i64 x.f)
  have s2 := World.ownsRow.stored s1.1 (i * 3 + 1) (.bool x.m)
  have s3 := World.ownsRow.stored s2.1 (i * 3 + 2) (.string ⟨x.d.toArray⟩)
  have e := fgsV_put l i hi x
  rw [e] at s3
  refine ⟨?_, grownBy_trans (grownBy_trans s1.2 s2.2) s3.2⟩
  show World.ownsRow _ B _ 3 (.slice _ (l.set i x).length c) (l.set i x).length _
  rw [List.length_set]
  exact s3.1

/-- Where the drawing of fragments stands. -/
structure Fd (w : World) (r g c : Nat) (l : List Fg) (W : World) : Prop where
  gr : w.grownBy W (some r)
  rd : RdOk W r
  o : OwnFg W (r + 1) (some ⟨g, 0, none⟩) c l
  wg : w.heap.size ≤ g
  rl : r < w.heap.size

theorem Fd.step {w W W' : World} {r g c : Nat} {l : List Fg} (h : Fd w r g c l W) (hg : W.grownBy W' (some r)) (hd : RdOk W' r) : Fd w r g c l W' :=
  ⟨grownBy_trans h.gr hg, hd, World.ownsRow.kept h.o hg (frow_ne h.o (by omega)), h.wg, h.rl⟩

theorem rd_none {w a : World} {r : Nat} (h : RdOk w r) (k : w.grownBy a none) : RdOk a r := h.kept k (by simp) (by simp)
theorem g_none {w W : World} {r : Nat} (h : w.grownBy W none) : w.grownBy W (some r) := ⟨h.os, h.tape, h.output, h.size, fun k hk _ => h.block k hk (by simp)⟩

theorem Fd.keep {w W W' : World} {r g c : Nat} {l : List Fg} (h : Fd w r g c l W) (hg : W.grownBy W' none) : Fd w r g c l W' := h.step (g_none hg) (rd_none h.rd hg)

theorem Fd.put {w W : World} {r g c : Nat} {l : List Fg} (h : Fd w r g c l W) (i : Nat) (hi : i < l.length) (x : Fg) : Fd w r g c (l.set i x) (((W.setCell ⟨g, i * 3, none⟩ (.int .i64 x.f)).setCell ⟨g, i * 3 + 1, none⟩ (.bool x.m)).setCell ⟨g, i * 3 + 2, none⟩ (.string ⟨x.d.toArray⟩)) := by
  obtain ⟨h1, h2⟩ := own_put h.o i hi x
  have hw := h.wg
  have hr := h.rl
  exact ⟨fr_in h.gr h2 hw, h.rd.kept h2 (by simp; omega) (by intro k e; simp at e; omega), h1, hw, hr⟩

theorem Fd.cells {w W : World} {r g c : Nat} {l : List Fg} (h : Fd w r g c l W) (i : Nat) (hi : i < l.length) : W.cell? ⟨g, i * 3, none⟩ = some (.int .i64 (l[i]).f) ∧ W.cell? ⟨g, i * 3 + 1, none⟩ = some (.bool (l[i]).m) ∧ W.cell? ⟨g, i * 3 + 2, none⟩ = some (.string ⟨(l[i]).d.toArray⟩) := by
  have hx := fgsV_get l i hi
  rw [h.o.cellAt (i * 3) (by omega), h.o.cellAt (i * 3 + 1) (by omega), h.o.cellAt (i * 3 + 2) (by omega)]
  exact hx

theorem own_cap {w : World} {B g c : Nat} {l : List Fg} (h : OwnFg w B (some ⟨g, 0, none⟩) c l) : l.length ≤ c ∧ c ≤ maxLen := by
  rcases h.2 with ⟨hv, _⟩ | ⟨g', cap, cur, hv, _, _, h1, h2, _⟩
  · simp at hv
  · simp only [Value.slice.injEq] at hv
    obtain ⟨_, _, rfl⟩ := hv
    exact ⟨h1, h2⟩

theorem tail_at {w W : World} {r g c : Nat} {l : List Fg} (h : Fd w r g c l W) : FgAt W (some ⟨g, 3, none⟩) (l.drop 1) := by
  refine .inr ⟨g, 3, rfl, (h.o.lt g rfl).2, fun i hi => ?_⟩
  rw [List.length_drop] at hi
  obtain ⟨c0, c1, c2⟩ := h.cells (i + 1) (by omega)
  rw [List.getElem_drop]
  have e : 3 + i * 3 = (i + 1) * 3 := by omega
  rw [e]
  simp only [Nat.add_comm 1 i]
  exact ⟨c0, c1, c2⟩

def FdRel (w : World) (r g c n : Nat) (i : Value) (wr : World) : Prop := ∃ (k : Int) (l : List Fg), i = .int .i64 k ∧ 0 ≤ k ∧ k ≤ 3 ∧ l.length = n ∧ (∀ x ∈ l, x.d.length ≤ 1000) ∧ Fd w r g c l wr

def FdPost (w : World) (r : Nat) (e : Ending) (w' : World) : Prop :=
  ∃ a c l, e = .returned (.slice a (List.length l) c) ∧ w.grownBy w' (some r) ∧ RdOk w' r ∧ FgAt w' a l ∧ l.length ≤ 200 ∧ ∀ x ∈ l, x.d.length ≤ 1000

theorem cut_data (s : List UInt8) (z : Nat) : ∀ f a, ∀ x ∈ cutF s z f a, x.d.length ≤ s.length
  | 0, a, x, hx => by simp [cutF] at hx
  | f + 1, a, x, hx => by
    rw [cutF] at hx
    by_cases h : a < s.length
    · rw [if_pos h] at hx
      rcases List.mem_cons.mp hx with rfl | hx
      · simp only [List.length_take, List.length_drop]; omega
      · exact cut_data s z f (a + z) x hx
    · rw [if_neg h] at hx
      simp at hx

theorem frags_data (s : List UInt8) (z : Int) : ∀ x ∈ fragsL s z, x.d.length ≤ s.length := by
  unfold fragsL
  split
  · exact cut_data s _ _ _
  · simp

theorem frags_some {s : List UInt8} {z : Int} (h : frsP s z) : 0 < (fragsL s z).length := by
  unfold fragsL
  rw [if_pos h, cut_more _ _ _ _ (by have := h.1; omega)]
  simp

set_option maxRecDepth 100000 in
set_option maxHeartbeats 2000000 in
theorem frags_draw (r : Nat) (w : World) (h : RdOk w r) : Calls Try.prog 21 #[.pointer (some ⟨r, 0, none⟩)] w (FdPost w r) := by
  have hrlt : r < w.heap.size := h.lt
  obtain ⟨i0, hi, hz0, hz1, hz2⟩ := info_of infoFg
  have H := Lib.hid h
  clear h
  go_enter Try.func21, Try.ntmps21
  go_wp2_with fail
  refine (bytes_any _ 40 _ H.out (by omega)).mono ?_
  rintro e w1 ⟨s, hs, rfl, hg, hr⟩
  have H1 := Lib.hid (And.intro hg hr)
  clear hg hr
  go_wp2_with fail
  refine (below_any _ _ _ H1.out.2 (by omega)).mono ?_
  rintro e w2 ⟨v, v0, v1, rfl, hg, hr⟩
  rw [if_neg (by omega)] at v1
  have H2 := Lib.hid (And.intro (grownBy_trans H1.out.1 hg) hr)
  clear hg hr
  have hw1 : IntKind.i64.wrap (1 + v) = 1 + v := IntWalk.i64_in _ (by omega)
  have hw2 : IntKind.i64.wrap (8 * (1 + v)) = 8 * (1 + v) := IntWalk.i64_in _ (by omega)
  go_wp2_with fail
  rw [str_x]
  refine (fs_S (s ++ [120]) _ _ (by simp; omega)).mono ?_
  rintro e w3 ⟨a3, c3, rfl, hg, ho⟩
  have hfp : frsP (s ++ [120]) (8 * (1 + v)) := by
    unfold frsP
    simp only [List.length_append, List.length_cons, List.length_nil]
    omega
  have hL0 := frags_some hfp
  have hL1 := frags_len (s ++ [120]) (8 * (1 + v))
  have hL2 : ∀ x ∈ fragsL (s ++ [120]) (8 * (1 + v)), x.d.length ≤ 1000 := fun x hx => Nat.le_trans (frags_data _ _ x hx) (by simp; omega)
  generalize fragsL (s ++ [120]) (8 * (1 + v)) = l0 at *
  generalize decide (frsP (s ++ [120]) (8 * (1 + v))) = bb at *
  clear hfp hw1 hw2 v0 v1
  have hrd := H2.out.2.lt
  rcases ho.2 with ⟨hv, h0⟩ | ⟨g, cap, cur, hv, hb, _⟩
  · omega
  · simp only [Value.slice.injEq] at hv
    obtain ⟨rfl, _, rfl⟩ := hv
    have H3 := Lib.hid (show Fd w r g c3 l0 w3 from ⟨grownBy_trans H2.out.1 (g_none hg), rd_none H2.out.2 hg, fown_base ho (by omega), Nat.le_trans H2.out.1.size hb, hrlt⟩)
    clear hg ho hb hrd H2 H1 H
    go_wp2_with fail
    refine (below_any _ _ _ H3.out.rd (by omega)).mono ?_
    rintro e w4 ⟨n, n0, n1, rfl, hg, hr⟩
    rw [if_neg (by omega)] at n1
    have H4 := Lib.hid (H3.out.step hg hr)
    clear hg hr H3
    go_wp2_with fail
    go_loopw [5, 6, 7, 8] (fun i s6 s7 s8 wr => FdRel w r g c3 l0.length i wr) (fun i _ _ _ _ => (intOf i).toNat)
    case atStart => exact ⟨n, l0, rfl, n0, by omega, rfl, hL2, H4.out⟩
    case round =>
      clear H4 n0 n1 hL2
      obtain ⟨k, l, rfl, k0, k1, hln, hld, hd⟩ := hrel
      have HS := Lib.hid hd
      have HLD := Lib.hid hld
      have HLN := Lib.hid hln
      clear hd hld hln
      by_cases hk : 0 < k ∧ 1 < l0.length
      · obtain ⟨hk1, hk2⟩ := hk
        have hk3 : (1 : Int) < (l0.length : Int) := by omega
        have hwk : IntKind.i64.wrap (k - 1) = k - 1 := IntWalk.i64_in _ (by omega)
        go_wp2_with fail
        refine (below_any _ _ _ HS.out.rd (by omega)).mono ?_
        rintro e w5 ⟨p, p0, p1, rfl, hg, hr⟩
        rw [if_neg (by omega)] at p1
        have H5 := Lib.hid (HS.out.step hg hr)
        clear hg hr
        go_wp2_with fail
        refine (below_any _ _ _ H5.out.rd (by omega)).mono ?_
        rintro e w6 ⟨q, q0, q1, rfl, hg, hr⟩
        rw [if_neg (by omega)] at q1
        have H6 := Lib.hid (H5.out.step hg hr)
        clear hg hr H5 HS
        obtain ⟨i, rfl⟩ := Int.eq_ofNat_of_zero_le p0
        obtain ⟨j, rfl⟩ := Int.eq_ofNat_of_zero_le q0
        have hil : i < l.length := by rw [HLN.out]; omega
        have hj : j < l.length := by rw [HLN.out]; omega
        obtain ⟨c0, c1, c2⟩ := H6.out.cells i hil
        have hi2 : (i : Int) < (l0.length : Int) := by omega
        have hj2 : (j : Int) < (l0.length : Int) := by omega
        clear p0 p1 q0 q1
        go_upto_region 8 with fail
        have gA := World.grownBy_alloc w6 (.cells #[.int .i64 (l[i]).f, .bool (l[i]).m, .string ⟨(l[i]).d.toArray⟩] 30) none
        have H7 := Lib.hid (H6.out.keep gA)
        obtain ⟨b0, b1, b2⟩ := box3 w6 (.int .i64 (l[i]).f) (.bool (l[i]).m) (.string ⟨(l[i]).d.toArray⟩) 30
        have hgl : g ≠ w6.heap.size := by
          have := (H6.out.o.lt g rfl).2
          omega
        have hgr : w6.heap.size ≠ g := fun e => hgl e.symm
        clear gA c0 c1 c2 H6
        generalize w6.alloc (.cells #[.int .i64 (l[i]).f, .bool (l[i]).m, .string ⟨(l[i]).d.toArray⟩] 30) = w7 at *
        generalize w6.heap.size = X at *
        obtain ⟨c0, c1, c2⟩ := H7.out.cells i hil
        obtain ⟨d0, d1, d2⟩ := H7.out.cells j hj
        have H8 := Lib.hid (H7.out.put i hil l[j])
        have H9 := Lib.hid (H8.out.put j (by simpa using hj) l[i])
        have hdi := HLD.out l[i] (List.getElem_mem hil)
        have hdj := HLD.out l[j] (List.getElem_mem hj)
        have HR := Lib.hid (show (∀ x ∈ (l.set i l[j]).set j l[i], x.d.length ≤ 1000) by
          intro x hx
          rcases List.mem_or_eq_of_mem_set hx with hx | rfl
          · rcases List.mem_or_eq_of_mem_set hx with hx | rfl
            · exact HLD.out x hx
            · exact hdj
          · exact hdi)
        have f0 := H7.out.o.frozenAt (i * 3)
        have f1 := H7.out.o.frozenAt (i * 3 + 1)
        have f2 := H7.out.o.frozenAt (i * 3 + 2)
        have e0 := H7.out.o.frozenAt (j * 3)
        have e1 := H7.out.o.frozenAt (j * 3 + 1)
        have e2 := H7.out.o.frozenAt (j * 3 + 2)
        clear hdi hdj
        by_cases hij : i = j
        · subst hij
          generalize l[i] = x at *
          go_wp2_with fail
          go_roundw
          case rel => exact ⟨k - 1, _, by first | rfl | go_num, by omega, by omega, by simp [HLN.out], HR.out, H9.out⟩
          case measure => simp [intOf]; omega
        · generalize l[i] = x at *
          generalize l[j] = y at *
          have n00 : ¬ i * 3 = j * 3 := by omega
          have m00 : ¬ j * 3 = i * 3 := by omega
          have n01 : ¬ i * 3 = j * 3 + 1 := by omega
          have m01 : ¬ j * 3 + 1 = i * 3 := by omega
          have n02 : ¬ i * 3 = j * 3 + 2 := by omega
          have m02 : ¬ j * 3 + 2 = i * 3 := by omega
          have n10 : ¬ i * 3 + 1 = j * 3 := by omega
          have m10 : ¬ j * 3 = i * 3 + 1 := by omega
          have n11 : ¬ i * 3 + 1 = j * 3 + 1 := by omega
          have m11 : ¬ j * 3 + 1 = i * 3 + 1 := by omega
          have n12 : ¬ i * 3 + 1 = j * 3 + 2 := by omega
          have m12 : ¬ j * 3 + 2 = i * 3 + 1 := by omega
          have n20 : ¬ i * 3 + 2 = j * 3 := by omega
          have m20 : ¬ j * 3 = i * 3 + 2 := by omega
          have n21 : ¬ i * 3 + 2 = j * 3 + 1 := by omega
          have m21 : ¬ j * 3 + 1 = i * 3 + 2 := by omega
          have n22 : ¬ i * 3 + 2 = j * 3 + 2 := by omega
          have m22 : ¬ j * 3 + 2 = i * 3 + 2 := by omega
          go_wp2_with fail
          go_roundw
          case rel => exact ⟨k - 1, _, by first | rfl | go_num, by omega, by omega, by simp [HLN.out], HR.out, H9.out⟩
          case measure => simp [intOf]; omega
      · by_cases hk1 : 0 < k
        · have hk3 : ¬ (1 : Int) < (l0.length : Int) := fun h => hk ⟨hk1, by omega⟩
          clear hk
          go_wp2_with fail
          refine (below_any _ _ _ HS.out.rd (by omega)).mono ?_
          rintro e w5 ⟨t, t0, t1, rfl, hg, hr⟩
          rw [if_neg (by omega)] at t1
          have H5 := Lib.hid (HS.out.step hg hr)
          clear hg hr HS
          have hl0 : 0 < l.length := by rw [HLN.out]; exact hL0
          have hl200 : l.length ≤ 126 := by rw [HLN.out]; exact hL1
          have hcap := own_cap H5.out.o
          by_cases t5 : t = 5
          · have e1 : (t == 5) = true := by simp [t5]
            clear t5
            have hq1 : ¬ (c3 : Int) < (l0.length : Int) := by rw [← HLN.out]; omega
            have hq2 : (1 : Int) ≤ (l0.length : Int) := by omega
            have hq3 : ¬ (l0.length : Int) < 1 := by omega
            have HT := Lib.hid (tail_at H5.out)
            have HD := Lib.hid (show ∀ x ∈ l.drop 1, x.d.length ≤ 1000 from fun x hx => HLD.out x (List.mem_of_mem_drop hx))
            by_cases hc1 : c3 = 1
            · have hd0 : l.drop 1 = [] := List.drop_eq_nil_of_le (by omega)
              have hn1 : l0.length - 1 = 0 := by rw [← HLN.out]; omega
              have HN1 := Lib.hid (And.intro hd0 hn1)
              clear hd0 hn1
              subst hc1
              go_wp2_with fail
              go_ret
              exact ⟨_, _, [], by have h := HN1.out.2; simp only [List.length_nil]; rw [← h]; rfl, H5.out.gr, H5.out.rd, .inl rfl, by simp, by simp⟩
            · have hc2 : ¬ (c3 : Int) = 1 := by omega
              have hc3 : ¬ 1 = c3 := fun e => hc1 e.symm
              go_wp2_with fail
              go_ret
              exact ⟨_, c3 - 1, l.drop 1, by rw [List.length_drop, HLN.out]; rfl, H5.out.gr, H5.out.rd, HT.out, by rw [List.length_drop]; omega, HD.out⟩
          · have e1 : (t == 5) = false := by simp [t5]
            clear t5
            by_cases t6 : t = 6
            · have e2 : (t == 6) = true := by simp [t6]
              clear t6
              obtain ⟨c0, c1, c2⟩ := H5.out.cells 0 hl0
              have HX := Lib.hid (HLD.out l[0] (List.getElem_mem hl0))
              generalize l[0] = x at *
              simp only [Nat.zero_mul, Nat.zero_add] at c0 c1 c2
              have gL := World.grownBy_alloc w5 (.cells #[.int .i64 x.f, .bool x.m, .string ⟨x.d.toArray⟩] 30) none
              have ho := fown_kept H5.out.o gL
              rw [HLN.out] at ho
              have HO := Lib.hid (And.intro ho gL)
              clear gL ho
              go_wp2_with (at_builtin; refine wpList_append_own _ rfl _ _ 26 rfl (r + 1) 30 i0 _ 3 32 Try.underlying26 hi hz0 hz1 hz2 rfl (by decide) _ _ _ rfl HO.out.1 ⟨w5.heap.size, 0, none⟩ 1 1 [.int .i64 x.f, .bool x.m, .string ⟨x.d.toArray⟩] rfl rfl (trip_new w5 _ _ _ _ _ rfl) (by simp [Value.oneCell']) (by unfold maxLen; omega) (by omega) (by have := H5.out.rd.lt; have := HO.out.2.size; omega) ?_)
              intro v' wz hown1 hg1 _
              obtain ⟨a9, c9, rfl⟩ := fown_slice hown1
              have hg2 : (w5.alloc (.cells #[.int .i64 x.f, .bool x.m, .string ⟨x.d.toArray⟩] 30)).grownBy wz (some g) := hg1
              have hwg := H5.out.wg
              have how : OwnFg wz (r + 1) a9 c9 (l ++ [x]) := by
                show World.ownsRow _ _ _ _ _ _ _
                rw [fgsV_snoc, List.length_append, HLN.out]
                exact hown1
              have HW := Lib.hid (And.intro (fr_in (grownBy_trans H5.out.gr (g_none HO.out.2)) hg2 hwg) (And.intro ((rd_none H5.out.rd HO.out.2).kept hg2 (by simp; omega) (by intro k e; simp at e; omega)) (fg_own how)))
              clear hg1 hg2 hwg how hown1
              go_wp2_with fail
              go_ret
              refine ⟨a9, c9, l ++ [x], by rw [List.length_append, HLN.out]; rfl, HW.out.1, HW.out.2.1, HW.out.2.2, by simp; omega, fun y hy => ?_⟩
              rcases List.mem_append.mp hy with hy | hy
              · exact HLD.out y hy
              · obtain rfl := List.mem_singleton.mp hy
                exact HX.out
            · have e2 : (t == 6) = false := by simp [t6]
              clear t6
              by_cases t7 : t = 7
              · have e3 : (t == 7) = true := by simp [t7]
                clear t7
                go_wp2_with fail
                refine (off_any _ _ _ _ H5.out.rd (by omega) (by omega) (by omega)).mono ?_
                rintro e w6 ⟨u, hu, rfl, hg, hr⟩
                have H6 := Lib.hid (H5.out.step hg hr)
                clear hg hr hu
                obtain ⟨c0, c1, c2⟩ := H6.out.cells 0 hl0
                have f0 := H6.out.o.frozenAt 0
                obtain ⟨y, rest, rfl⟩ : ∃ y rest, l = y :: rest := by
                  cases l with
                  | nil => simp at hl0
                  | cons y rest => exact ⟨y, rest, rfl⟩
                have hst := World.ownsRow.stored H6.out.o 0 (.int .i64 u)
                have hwg := H6.out.wg
                have how : OwnFg (w6.setCell ⟨g, 0, none⟩ (.int .i64 u)) (r + 1) (some ⟨g, 0, none⟩) c3 (⟨u, y.m, y.d⟩ :: rest) := hst.1
                have HW := Lib.hid (And.intro (fr_in H6.out.gr hst.2 hwg) (And.intro (H6.out.rd.kept hst.2 (by simp; omega) (by intro k e; simp at e; omega)) (fg_own how)))
                have HY := Lib.hid (HLD.out y (List.mem_cons_self ..))
                simp only [Nat.zero_mul, Nat.zero_add, List.getElem_cons_zero] at c0 c1 c2
                clear hst how hwg
                go_wp2_with fail
                go_ret
                refine ⟨_, c3, ⟨u, y.m, y.d⟩ :: rest, by have h := HLN.out; simp only [List.length_cons] at h ⊢; rw [h]; rfl, HW.out.1, HW.out.2.1, HW.out.2.2, by simp only [List.length_cons] at hl200 ⊢; omega, fun z hz => ?_⟩
                rcases List.mem_cons.mp hz with rfl | hz
                · exact HY.out
                · exact HLD.out z (List.mem_cons_of_mem _ hz)
              · have e3 : (t == 7) = false := by simp [t7]
                clear t7
                go_wp2_with fail
                go_ret
                exact ⟨_, c3, l, by rw [HLN.out]; rfl, H5.out.gr, H5.out.rd, fg_own H5.out.o, by omega, HLD.out⟩
        · clear hk
          go_wp2_with fail
          refine (below_any _ _ _ HS.out.rd (by omega)).mono ?_
          rintro e w5 ⟨t, t0, t1, rfl, hg, hr⟩
          rw [if_neg (by omega)] at t1
          have H5 := Lib.hid (HS.out.step hg hr)
          clear hg hr HS
          have hl0 : 0 < l.length := by rw [HLN.out]; exact hL0
          have hl200 : l.length ≤ 126 := by rw [HLN.out]; exact hL1
          have hcap := own_cap H5.out.o
          by_cases t5 : t = 5
          · have e1 : (t == 5) = true := by simp [t5]
            clear t5
            have hq1 : ¬ (c3 : Int) < (l0.length : Int) := by rw [← HLN.out]; omega
            have hq2 : (1 : Int) ≤ (l0.length : Int) := by omega
            have hq3 : ¬ (l0.length : Int) < 1 := by omega
            have HT := Lib.hid (tail_at H5.out)
            have HD := Lib.hid (show ∀ x ∈ l.drop 1, x.d.length ≤ 1000 from fun x hx => HLD.out x (List.mem_of_mem_drop hx))
            by_cases hc1 : c3 = 1
            · have hd0 : l.drop 1 = [] := List.drop_eq_nil_of_le (by omega)
              have hn1 : l0.length - 1 = 0 := by rw [← HLN.out]; omega
              have HN1 := Lib.hid (And.intro hd0 hn1)
              clear hd0 hn1
              subst hc1
              go_wp2_with fail
              go_ret
              exact ⟨_, _, [], by have h := HN1.out.2; simp only [List.length_nil]; rw [← h]; rfl, H5.out.gr, H5.out.rd, .inl rfl, by simp, by simp⟩
            · have hc2 : ¬ (c3 : Int) = 1 := by omega
              have hc3 : ¬ 1 = c3 := fun e => hc1 e.symm
              go_wp2_with fail
              go_ret
              exact ⟨_, c3 - 1, l.drop 1, by rw [List.length_drop, HLN.out]; rfl, H5.out.gr, H5.out.rd, HT.out, by rw [List.length_drop]; omega, HD.out⟩
          · have e1 : (t == 5) = false := by simp [t5]
            clear t5
            by_cases t6 : t = 6
            · have e2 : (t == 6) = true := by simp [t6]
              clear t6
              obtain ⟨c0, c1, c2⟩ := H5.out.cells 0 hl0
              have HX := Lib.hid (HLD.out l[0] (List.getElem_mem hl0))
              generalize l[0] = x at *
              simp only [Nat.zero_mul, Nat.zero_add] at c0 c1 c2
              have gL := World.grownBy_alloc w5 (.cells #[.int .i64 x.f, .bool x.m, .string ⟨x.d.toArray⟩] 30) none
              have ho := fown_kept H5.out.o gL
              rw [HLN.out] at ho
              have HO := Lib.hid (And.intro ho gL)
              clear gL ho
              go_wp2_with (at_builtin; refine wpList_append_own _ rfl _ _ 26 rfl (r + 1) 30 i0 _ 3 32 Try.underlying26 hi hz0 hz1 hz2 rfl (by decide) _ _ _ rfl HO.out.1 ⟨w5.heap.size, 0, none⟩ 1 1 [.int .i64 x.f, .bool x.m, .string ⟨x.d.toArray⟩] rfl rfl (trip_new w5 _ _ _ _ _ rfl) (by simp [Value.oneCell']) (by unfold maxLen; omega) (by omega) (by have := H5.out.rd.lt; have := HO.out.2.size; omega) ?_)
              intro v' wz hown1 hg1 _
              obtain ⟨a9, c9, rfl⟩ := fown_slice hown1
              have hg2 : (w5.alloc (.cells #[.int .i64 x.f, .bool x.m, .string ⟨x.d.toArray⟩] 30)).grownBy wz (some g) := hg1
              have hwg := H5.out.wg
              have how : OwnFg wz (r + 1) a9 c9 (l ++ [x]) := by
                show World.ownsRow _ _ _ _ _ _ _
                rw [fgsV_snoc, List.length_append, HLN.out]
                exact hown1
              have HW := Lib.hid (And.intro (fr_in (grownBy_trans H5.out.gr (g_none HO.out.2)) hg2 hwg) (And.intro ((rd_none H5.out.rd HO.out.2).kept hg2 (by simp; omega) (by intro k e; simp at e; omega)) (fg_own how)))
              clear hg1 hg2 hwg how hown1
              go_wp2_with fail
              go_ret
              refine ⟨a9, c9, l ++ [x], by rw [List.length_append, HLN.out]; rfl, HW.out.1, HW.out.2.1, HW.out.2.2, by simp; omega, fun y hy => ?_⟩
              rcases List.mem_append.mp hy with hy | hy
              · exact HLD.out y hy
              · obtain rfl := List.mem_singleton.mp hy
                exact HX.out
            · have e2 : (t == 6) = false := by simp [t6]
              clear t6
              by_cases t7 : t = 7
              · have e3 : (t == 7) = true := by simp [t7]
                clear t7
                go_wp2_with fail
                refine (off_any _ _ _ _ H5.out.rd (by omega) (by omega) (by omega)).mono ?_
                rintro e w6 ⟨u, hu, rfl, hg, hr⟩
                have H6 := Lib.hid (H5.out.step hg hr)
                clear hg hr hu
                obtain ⟨c0, c1, c2⟩ := H6.out.cells 0 hl0
                have f0 := H6.out.o.frozenAt 0
                obtain ⟨y, rest, rfl⟩ : ∃ y rest, l = y :: rest := by
                  cases l with
                  | nil => simp at hl0
                  | cons y rest => exact ⟨y, rest, rfl⟩
                have hst := World.ownsRow.stored H6.out.o 0 (.int .i64 u)
                have hwg := H6.out.wg
                have how : OwnFg (w6.setCell ⟨g, 0, none⟩ (.int .i64 u)) (r + 1) (some ⟨g, 0, none⟩) c3 (⟨u, y.m, y.d⟩ :: rest) := hst.1
                have HW := Lib.hid (And.intro (fr_in H6.out.gr hst.2 hwg) (And.intro (H6.out.rd.kept hst.2 (by simp; omega) (by intro k e; simp at e; omega)) (fg_own how)))
                have HY := Lib.hid (HLD.out y (List.mem_cons_self ..))
                simp only [Nat.zero_mul, Nat.zero_add, List.getElem_cons_zero] at c0 c1 c2
                clear hst how hwg
                go_wp2_with fail
                go_ret
                refine ⟨_, c3, ⟨u, y.m, y.d⟩ :: rest, by have h := HLN.out; simp only [List.length_cons] at h ⊢; rw [h]; rfl, HW.out.1, HW.out.2.1, HW.out.2.2, by simp only [List.length_cons] at hl200 ⊢; omega, fun z hz => ?_⟩
                rcases List.mem_cons.mp hz with rfl | hz
                · exact HY.out
                · exact HLD.out z (List.mem_cons_of_mem _ hz)
              · have e3 : (t == 7) = false := by simp [t7]
                clear t7
                go_wp2_with fail
                go_ret
                exact ⟨_, c3, l, by rw [HLN.out]; rfl, H5.out.gr, H5.out.rd, fg_own H5.out.o, by omega, HLD.out⟩

def DwPost (w : World) (e : Ending) (w' : World) : Prop :=
  ∃ a c l, e = .returned (.slice a (List.length l) c) ∧ w.grownBy w' none ∧ FgAt w' a l ∧ l.length ≤ 200 ∧ ∀ x ∈ l, x.d.length ≤ 1000

theorem wh_of {l : List Fg} (h : whOk l = true) : WP l (whS l) := by
  have he : ∃ s, WP l s := by simpa [whOk] using h
  unfold whS
  rw [dif_pos he]
  exact he.choose_spec

end Go.Proofs.Ytaigdimicnlfdaa
