/- A text cut into fragments: the program and the model. -/
import Derived.Test.YtaigdimicnlfdaaFrOk
namespace Go.Proofs.Ytaigdimicnlfdaa
open Go.RowKit

theorem str_mid (r : List UInt8) (a b : Nat) : ({ data := r.toArray } : ByteArray).extract a b = ⟨((r.drop a).take (b - a)).toArray⟩ := by
  apply ByteArray.ext
  simp only [ByteArray.data_extract]
  apply Array.ext'
  simp
def frsP (s : List UInt8) (z : Int) : Prop := 1 ≤ s.length ∧ s.length ≤ 1000 ∧ 8 ≤ z ∧ z ≤ 296 ∧ z % 8 = 0 ∧ (s.length : Int) ≤ 60 * z
instance (s : List UInt8) (z : Int) : Decidable (frsP s z) := by unfold frsP; infer_instance
def cutF (s : List UInt8) (z : Nat) : Nat → Nat → List Fg
  | 0, _ => []
  | f + 1, a => if a < s.length then ⟨(a : Int) / 8, decide (a + z < s.length), (s.drop a).take (min (a + z) s.length - a)⟩ :: cutF s z f (a + z) else []
def fragsL (s : List UInt8) (z : Int) : List Fg := if frsP s z then cutF s z.toNat (s.length + 1) 0 else []
theorem cut_more (s : List UInt8) (z f a : Nat) (h : a < s.length) : cutF s z (f + 1) a = ⟨(a : Int) / 8, decide (a + z < s.length), (s.drop a).take (min (a + z) s.length - a)⟩ :: cutF s z f (a + z) := by rw [cutF, if_pos h]
theorem cut_end (s : List UInt8) (z f a : Nat) (h : ¬ a < s.length) : cutF s z f a = [] := by
  cases f with
  | zero => rfl
  | succ f => rw [cutF, if_neg h]
theorem cut_len (s : List UInt8) (z : Nat) (hz : 1 ≤ z) : ∀ f a, (cutF s z f a).length * z ≤ s.length - a + z ∧ (¬ a < s.length → (cutF s z f a).length = 0)
  | 0, a => by simp [cutF]
  | f + 1, a => by
    by_cases h : a < s.length
    · rw [cut_more _ _ _ _ h]
      have ih := cut_len s z hz f (a + z)
      refine ⟨?_, fun h2 => absurd h h2⟩
      rw [List.length_cons, Nat.add_mul]
      by_cases h2 : a + z < s.length
      · have := ih.1; omega
      · have := ih.2 h2
        rw [this]
        omega
    · rw [cut_end _ _ _ _ h]
      exact ⟨by simp, fun _ => rfl⟩
theorem frags_len (s : List UInt8) (z : Int) : (fragsL s z).length ≤ 126 := by
  unfold fragsL
  split
  · rename_i h
    obtain ⟨h1, h2, h3, h4, h5, h6⟩ := h
    have hl := (cut_len s z.toNat (by omega) (s.length + 1) 0).1
    have h8 : 8 ≤ z.toNat := by omega
    have : (cutF s z.toNat (s.length + 1) 0).length * 8 ≤ (cutF s z.toNat (s.length + 1) 0).length * z.toNat := Nat.mul_le_mul_left _ h8
    have hz296 : z.toNat ≤ 296 := by omega
    by_cases hc : (cutF s z.toNat (s.length + 1) 0).length ≤ 126
    · exact hc
    · exfalso
      have hd : 127 * z.toNat ≤ (cutF s z.toNat (s.length + 1) 0).length * z.toNat := Nat.mul_le_mul_right _ (by omega)
      omega
  · simp
def FsPost (w : World) (s : List UInt8) (z : Int) (e : Ending) (w' : World) : Prop :=
  ∃ a c, e = .returned (.tuple #[.slice a (fragsL s z).length c, .bool (decide (frsP s z))]) ∧ w.grownBy w' none ∧ OwnFg w' w.heap.size a c (fragsL s z)
theorem fs_no {w w' : World} {s : List UInt8} {z : Int} (h : ¬ frsP s z) (hg : w.grownBy w' none) : FsPost w s z (.returned (.tuple #[.slice none 0 0, .bool false])) w' := by
  have e : fragsL s z = [] := if_neg h
  refine ⟨none, 0, ?_, hg, ?_⟩
  · rw [e, decide_eq_false h]; rfl
  · rw [e]; exact World.ownsRow_nil _ _ _ _
def FsRel (w : World) (s : List UInt8) (z : Nat) (l i : Value) (wr : World) : Prop :=
  ∃ (a f : Nat) (hs : List Fg), i = .int .i64 (a : Int) ∧ s.length < a + f ∧ a < s.length + z ∧ a = hs.length * z ∧ hs ++ cutF s z f a = cutF s z (s.length + 1) 0 ∧ w.grownBy wr none ∧ wr.ownsRow w.heap.size 30 3 l hs.length (fgsV hs)
theorem trip_new (w : World) (x y z : Value) (T : TypeId) (b : Nat) (hb : b = w.heap.size) : ∀ j u, [x, y, z][j]? = some u → (w.alloc (.cells #[x, y, z] T)).cell? ((⟨b, 0, none⟩ : Addr).add j) = some u := by
  subst hb
  intro j u hj
  match j, hj with
  | 0, hj => simp at hj; subst hj; simp [Addr.add]
  | 1, hj => simp at hj; subst hj; simp [Addr.add]
  | 2, hj => simp at hj; subst hj; simp [Addr.add]
theorem rowf_grown {w a b : World} {e : TypeId} {v : Value} {m s : Nat} {ys : List Value} (ho : a.ownsRow w.heap.size e s v m ys) (h : w.grownBy a none) (k : a.grownBy b v.ownBlock) : w.grownBy b none := grown_row_none h k ho (Nat.le_refl _)
theorem rowf0 (w : World) : (w.alloc (.cells #[] 30)).ownsRow w.heap.size 30 3 (.slice (some ⟨w.heap.size, 0, none⟩) 0 0) 0 [] :=
  ⟨by simp, .inr ⟨w.heap.size, 0, #[], rfl, Nat.le_refl _, (by show (w.heap.push (Obj.cells #[] 30))[w.heap.size]? = _; simp), Nat.le_refl _, by unfold maxLen; omega, by simp, by simp⟩⟩

set_option maxRecDepth 100000 in
set_option maxHeartbeats 2000000 in
theorem fs_I (s : List UInt8) (z : Int) (w : World) (hl : s.length ≤ 9223372036854775807) : Calls Try.prog 7 #[.string ⟨s.toArray⟩, .int .i64 z] w (FsPost w s z) := by
  obtain ⟨i0, hi, hz0, hz1, hz2⟩ := info_of infoFg
  by_cases g0 : s.length < 1
  · go_enter Try.func7, Try.ntmps7
    go_wp2_with fail
    refine bodyPost_ret (v := .tuple #[.slice none 0 0, .bool false]) (by simp [results, Try.results7, go_sem]) rfl (fs_no (by unfold frsP; omega) (World.grownBy.refl _ _))
  · by_cases g1 : 1000 < s.length
    · go_enter Try.func7, Try.ntmps7
      go_wp2_with fail
      refine bodyPost_ret (v := .tuple #[.slice none 0 0, .bool false]) (by simp [results, Try.results7, go_sem]) rfl (fs_no (by unfold frsP; omega) (World.grownBy.refl _ _))
    · by_cases g2 : z < 8
      · go_enter Try.func7, Try.ntmps7
        go_wp2_with fail
        refine bodyPost_ret (v := .tuple #[.slice none 0 0, .bool false]) (by simp [results, Try.results7, go_sem]) rfl (fs_no (by unfold frsP; omega) (World.grownBy.refl _ _))
      · by_cases g3 : 296 < z
        · go_enter Try.func7, Try.ntmps7
          go_wp2_with fail
          refine bodyPost_ret (v := .tuple #[.slice none 0 0, .bool false]) (by simp [results, Try.results7, go_sem]) rfl (fs_no (by unfold frsP; omega) (World.grownBy.refl _ _))
        · go_enter Try.func7, Try.ntmps7
          go_wp2_with fail
          refine (units_any _ _ (by omega) (by omega)).mono ?_
          rintro e w2 ⟨rfl, rfl⟩
          by_cases h8 : z % 8 = 0
          · rw [decide_eq_true h8]
            by_cases h60 : 60 * z < (s.length : Int)
            · have hw60 : IntKind.i64.wrap (60 * z) = 60 * z := IntWalk.i64_in _ (by omega)
              have H8 := Lib.hid h8
              clear h8
              go_wp2_with fail
              refine bodyPost_ret (v := .tuple #[.slice none 0 0, .bool false]) (by simp [results, Try.results7, go_sem]) rfl (fs_no (by have := H8.out; unfold frsP; omega) (World.grownBy.refl _ _))
            · have hw60 : IntKind.i64.wrap (60 * z) = 60 * z := IntWalk.i64_in _ (by omega)
              have H8 := Lib.hid h8
              clear h8
              go_wp2_with fail
              have h8 := H8.out
              have hz0 : 0 ≤ z := by omega
              obtain ⟨Z, rfl⟩ := Int.eq_ofNat_of_zero_le hz0
              have HV := Lib.hid (show frsP s (Z : Int) ∧ fragsL s (Z : Int) = cutF s Z (s.length + 1) 0 from ⟨⟨by omega, by omega, by omega, by omega, by omega, by omega⟩, if_pos ⟨by omega, by omega, by omega, by omega, by omega, by omega⟩⟩)
              have hZ8 : 8 ≤ Z := by omega
              have hZ2 : Z ≤ 296 := by omega
              have hs1 : s.length ≤ 1000 := by omega
              have hs60 : s.length ≤ 60 * Z := by omega
              clear h8 H8 hw60 h60 g0 g1 g2 g3 hz0
              go_loopw [7, 8] (fun l i wr => FsRel w s Z l i wr) (fun _ i _ => s.length - (intOf i).toNat)
              case atStart => exact ⟨0, s.length + 1, [], rfl, by omega, by omega, by simp, rfl, World.grownBy.refl _ _, World.ownsRow_nil _ _ _ _⟩
              case round =>
                obtain ⟨a, f, hs, rfl, hf, ha, hm, he, hg, ho⟩ := hrel
                obtain ⟨la, lc, rfl⟩ := own_slice ho
                have HS := Lib.hid (And.intro he (And.intro hg (And.intro ho hm)))
                clear he hg ho hm
                by_cases hlt : a < s.length
                · obtain ⟨f, rfl⟩ : ∃ q, f = q + 1 := ⟨f - 1, by omega⟩
                  have HC := Lib.hid (cut_more s Z f a hlt)
                  have hh : hs.length ≤ 1000 := by have h1 := HS.out.2.2.2; have h2 : hs.length * 1 ≤ hs.length * Z := Nat.mul_le_mul_left _ (by omega); omega
                  have hlt' : (a : Int) < (s.length : Int) := by omega
                  have ha0 : (0 : Int) ≤ (a : Int) := by omega
                  have hw1 : IntKind.i64.wrap ((a : Int) + (Z : Int)) = ((a + Z : Nat) : Int) := by rw [IntWalk.i64_in _ (by omega)]; omega
                  have hw2 : IntKind.i64.wrap ((a : Int).tdiv 8) = (a : Int) / 8 := by rw [Int.tdiv_eq_ediv_of_nonneg ha0, IntWalk.i64_in _ (by omega)]
                  by_cases ht : a + Z < s.length
                  · have HT := Lib.hid (show ∃ x : Fg, x = ⟨(a : Int) / 8, true, (s.drop a).take (a + Z - a)⟩ ∧ hs ++ [x] ++ cutF s Z f (a + Z) = cutF s Z (s.length + 1) 0 from ⟨_, rfl, by rw [← HS.out.1, HC.out, decide_eq_true ht, Nat.min_eq_left (Nat.le_of_lt ht)]; simp⟩)
                    have ht1 : ((a + Z : Nat) : Int) < (s.length : Int) := by omega
                    have ht2 : (a : Int) + (Z : Int) < (s.length : Int) := by omega
                    have ht3 : ¬ (s.length : Int) ≤ (a : Int) + (Z : Int) := by omega
                    have ht4 : (a : Int) + (Z : Int) ≤ (s.length : Int) := by omega
                    have ht5 : ¬ (s.length : Int) < (a : Int) + (Z : Int) := by omega
                    have ht6 : (a : Int) ≤ (a : Int) + (Z : Int) := by omega
                    go_wp2_with (at_builtin; refine wpList_append_own _ rfl _ _ 26 rfl w.heap.size 30 i0 _ 3 32 Try.underlying26 hi hz0 hz1 hz2 rfl (by decide) _ _ _ rfl (HS.out.2.2.1.alloc _) ⟨wr.heap.size, 0, none⟩ 1 1 [.int .i64 ((a : Int) / 8), .bool true, .string (({ data := s.toArray } : ByteArray).extract a (a + Z))] rfl rfl ?c1 ?c2 ?c3 ?c4 ?c5 ?_)
                    try (case c1 => exact trip_new _ _ _ _ _ _ rfl)
                    case c2 => simp [Value.oneCell']
                    case c3 => unfold maxLen; omega
                    case c4 => omega
                    case c5 => have := HS.out.2.1.size; simp; omega
                    intro v' wz hown1 hg1 _
                    have HW := Lib.hid (And.intro hown1 hg1)
                    clear hown1 hg1
                    go_wp2_with fail
                    go_roundw
                    case rel =>
                      obtain ⟨x, hx, hxe⟩ := HT.out
                      refine ⟨a + Z, f, hs ++ [x], by go_num, by omega, by omega, by rw [List.length_append, List.length_singleton, Nat.add_mul, ← HS.out.2.2.2]; omega, hxe, rowf_grown (HS.out.2.2.1.alloc _) (grownBy_trans HS.out.2.1 (World.grownBy_alloc _ _ _)) HW.out.2, ?_⟩
                      have hq := HW.out.1
                      rw [str_mid] at hq
                      rw [List.length_append, List.length_singleton, fgsV_snoc, hx]
                      exact hq
                    case measure => simp [intOf]; omega
                  · have HT := Lib.hid (show ∃ x : Fg, x = ⟨(a : Int) / 8, false, (s.drop a).take (s.length - a)⟩ ∧ hs ++ [x] ++ cutF s Z f (a + Z) = cutF s Z (s.length + 1) 0 from ⟨_, rfl, by rw [← HS.out.1, HC.out, decide_eq_false ht, Nat.min_eq_right (by omega)]; simp⟩)
                    have ht1 : ¬ (a : Int) + (Z : Int) < (s.length : Int) := by omega
                    have ht2 : (s.length : Int) ≤ (a : Int) + (Z : Int) := by omega
                    by_cases hte : (s.length : Int) < (a : Int) + (Z : Int)
                    · have ht3 : ¬ (a : Int) + (Z : Int) ≤ (s.length : Int) := by omega
                      go_wp2_with (at_builtin; refine wpList_append_own _ rfl _ _ 26 rfl w.heap.size 30 i0 _ 3 32 Try.underlying26 hi hz0 hz1 hz2 rfl (by decide) _ _ _ rfl (HS.out.2.2.1.alloc _) ⟨wr.heap.size, 0, none⟩ 1 1 [.int .i64 ((a : Int) / 8), .bool false, .string (({ data := s.toArray } : ByteArray).extract a (s.length))] rfl rfl ?d1 ?d2 ?d3 ?d4 ?d5 ?_)
                      try (case d1 => exact trip_new _ _ _ _ _ _ rfl)
                      case d2 => simp [Value.oneCell']
                      case d3 => unfold maxLen; omega
                      case d4 => omega
                      case d5 => have := HS.out.2.1.size; simp; omega
                      intro v' wz hown1 hg1 _
                      have HW := Lib.hid (And.intro hown1 hg1)
                      clear hown1 hg1
                      go_wp2_with fail
                      go_roundw
                      case rel =>
                        obtain ⟨x, hx, hxe⟩ := HT.out
                        refine ⟨a + Z, f, hs ++ [x], by go_num, by omega, by omega, by rw [List.length_append, List.length_singleton, Nat.add_mul, ← HS.out.2.2.2]; omega, hxe, rowf_grown (HS.out.2.2.1.alloc _) (grownBy_trans HS.out.2.1 (World.grownBy_alloc _ _ _)) HW.out.2, ?_⟩
                        have hq := HW.out.1
                        rw [str_mid] at hq
                        rw [List.length_append, List.length_singleton, fgsV_snoc, hx]
                        exact hq
                      case measure => simp [intOf]; omega
                    · have ht3 : (a : Int) + (Z : Int) ≤ (s.length : Int) := by omega
                      go_wp2_with (at_builtin; refine wpList_append_own _ rfl _ _ 26 rfl w.heap.size 30 i0 _ 3 32 Try.underlying26 hi hz0 hz1 hz2 rfl (by decide) _ _ _ rfl (HS.out.2.2.1.alloc _) ⟨wr.heap.size, 0, none⟩ 1 1 [.int .i64 ((a : Int) / 8), .bool false, .string (({ data := s.toArray } : ByteArray).extract a (a + Z))] rfl rfl ?e1 ?e2 ?e3 ?e4 ?e5 ?_)
                      try (case e1 => exact trip_new _ _ _ _ _ _ rfl)
                      case e2 => simp [Value.oneCell']
                      case e3 => unfold maxLen; omega
                      case e4 => omega
                      case e5 => have := HS.out.2.1.size; simp; omega
                      intro v' wz hown1 hg1 _
                      have HW := Lib.hid (And.intro hown1 hg1)
                      clear hown1 hg1
                      go_wp2_with fail
                      go_roundw
                      case rel =>
                        obtain ⟨x, hx, hxe⟩ := HT.out
                        refine ⟨a + Z, f, hs ++ [x], by go_num, by omega, by omega, by rw [List.length_append, List.length_singleton, Nat.add_mul, ← HS.out.2.2.2]; omega, hxe, rowf_grown (HS.out.2.2.1.alloc _) (grownBy_trans HS.out.2.1 (World.grownBy_alloc _ _ _)) HW.out.2, ?_⟩
                        have hq := HW.out.1
                        rw [str_mid] at hq
                        rw [show a + Z - a = s.length - a by omega] at hq
                        rw [List.length_append, List.length_singleton, fgsV_snoc, hx]
                        exact hq
                      case measure => simp [intOf]; omega
                · have HE := Lib.hid (show fragsL s (Z : Int) = hs by rw [HV.out.2, ← HS.out.1, cut_end _ _ _ _ hlt, List.append_nil])
                  go_wp2_with fail
                  refine bodyPost_ret (v := .tuple #[.slice la hs.length lc, .bool true]) (by simp [results, Try.results7, go_sem]) rfl ⟨la, lc, by rw [HE.out, decide_eq_true HV.out.1], HS.out.2.1, by rw [HE.out]; exact HS.out.2.2.1⟩
          · rw [decide_eq_false h8]
            have H8 := Lib.hid h8
            clear h8
            go_wp2_with fail
            refine bodyPost_ret (v := .tuple #[.slice none 0 0, .bool false]) (by simp [results, Try.results7, go_sem]) rfl (fs_no (by exact fun h => H8.out h.2.2.2.2.1) (World.grownBy.refl _ _))

set_option maxRecDepth 100000 in
set_option maxHeartbeats 2000000 in
theorem fs_S (s : List UInt8) (z : Int) (w : World) (hl : s.length ≤ 9223372036854775807) : Calls Try.prog 8 #[.string ⟨s.toArray⟩, .int .i64 z] w (FsPost w s z) := by
  obtain ⟨i0, hi, hz0, hz1, hz2⟩ := info_of infoFg
  have H0 := Lib.hid (And.intro (rowf0 w) (World.grownBy_alloc w (.cells #[] 30) none))
  cases g1 : inB (s.length : Int) 1 1000
  · have G1 := Lib.hid g1
    have g1 := in_not g1
    go_enter Try.func8, Try.ntmps8
    go_wp2_with (go_at_call 20; refine (in_any _ _ _ _).mono ?_; rintro e w2 ⟨rfl, rfl⟩; first | rw [G1.out])
    refine bodyPost_ret (v := .tuple #[.slice none 0 0, .bool false]) (by simp [results, Try.results8, go_sem]) rfl (fs_no (by unfold frsP; omega) (World.grownBy.refl _ _))
  · have G1 := Lib.hid g1
    have g1 := in_of g1
    cases g2 : inB z 8 296
    · have G2 := Lib.hid g2
      have g2 := in_not g2
      go_enter Try.func8, Try.ntmps8
      go_wp2_with (go_at_call 20; refine (in_any _ _ _ _).mono ?_; rintro e w2 ⟨rfl, rfl⟩; first | rw [G1.out] | rw [G2.out])
      refine bodyPost_ret (v := .tuple #[.slice none 0 0, .bool false]) (by simp [results, Try.results8, go_sem]) rfl (fs_no (by unfold frsP; omega) (World.grownBy.refl _ _))
    · have G2 := Lib.hid g2
      have g2 := in_of g2
      have hmod : z.tmod 8 = z % 8 := Int.tmod_eq_emod_of_nonneg (by omega)
      by_cases h8 : z % 8 = 0
      · have h8b : (z % 8 == 0) = true := by simpa using h8
        have H8 := Lib.hid h8
        clear h8
        by_cases h60 : 60 * z < (s.length : Int)
        · have hw60 : IntKind.i64.wrap (60 * z) = 60 * z := IntWalk.i64_in _ (by omega)
          go_enter Try.func8, Try.ntmps8
          go_wp2_with (go_at_call 20; refine (in_any _ _ _ _).mono ?_; rintro e w2 ⟨rfl, rfl⟩; first | rw [G1.out] | rw [G2.out])
          refine bodyPost_ret (v := .tuple #[.slice none 0 0, .bool false]) (by simp [results, Try.results8, go_sem]) rfl (fs_no (by unfold frsP; omega) (World.grownBy.refl _ _))
        · have hw60 : IntKind.i64.wrap (60 * z) = 60 * z := IntWalk.i64_in _ (by omega)
          go_enter Try.func8, Try.ntmps8
          go_wp2_with (go_at_call 20; refine (in_any _ _ _ _).mono ?_; rintro e w2 ⟨rfl, rfl⟩; first | rw [G1.out] | rw [G2.out])
          have h8 := H8.out
          have hz0 : 0 ≤ z := by omega
          obtain ⟨Z, rfl⟩ := Int.eq_ofNat_of_zero_le hz0
          have HV := Lib.hid (show frsP s (Z : Int) ∧ fragsL s (Z : Int) = cutF s Z (s.length + 1) 0 from ⟨⟨by omega, by omega, by omega, by omega, by omega, by omega⟩, if_pos ⟨by omega, by omega, by omega, by omega, by omega, by omega⟩⟩)
          have hZ8 : 8 ≤ Z := by omega
          have hZ2 : Z ≤ 296 := by omega
          have hs1 : s.length ≤ 1000 := by omega
          have hs60 : s.length ≤ 60 * Z := by omega
          clear h8 h8b H8 hw60 h60 g1 g2 hz0 hmod G1 G2
          go_loopw [6, 7] (fun l i wr => FsRel w s Z l i wr) (fun _ i _ => s.length - (intOf i).toNat)
          case atStart => exact ⟨0, s.length + 1, [], rfl, by omega, by omega, by simp, rfl, H0.out.2, H0.out.1⟩
          case round =>
            obtain ⟨a, f, hs, rfl, hf, ha, hm, he, hg, ho⟩ := hrel
            obtain ⟨la, lc, rfl⟩ := own_slice ho
            have HS := Lib.hid (And.intro he (And.intro hg (And.intro ho hm)))
            clear he hg ho hm
            by_cases hlt : a < s.length
            · obtain ⟨f, rfl⟩ : ∃ q, f = q + 1 := ⟨f - 1, by omega⟩
              have HC := Lib.hid (cut_more s Z f a hlt)
              have hh : hs.length ≤ 1000 := by have h1 := HS.out.2.2.2; have h2 : hs.length * 1 ≤ hs.length * Z := Nat.mul_le_mul_left _ (by omega); omega
              have hlt' : (a : Int) < (s.length : Int) := by omega
              have ha0 : (0 : Int) ≤ (a : Int) := by omega
              have hw1 : IntKind.i64.wrap ((a : Int) + (Z : Int)) = ((a + Z : Nat) : Int) := by rw [IntWalk.i64_in _ (by omega)]; omega
              have hw2 : IntKind.i64.wrap ((a : Int).tdiv 8) = (a : Int) / 8 := by rw [Int.tdiv_eq_ediv_of_nonneg ha0, IntWalk.i64_in _ (by omega)]
              by_cases ht : a + Z < s.length
              · have HT := Lib.hid (show ∃ x : Fg, x = ⟨(a : Int) / 8, true, (s.drop a).take (a + Z - a)⟩ ∧ hs ++ [x] ++ cutF s Z f (a + Z) = cutF s Z (s.length + 1) 0 from ⟨_, rfl, by rw [← HS.out.1, HC.out, decide_eq_true ht, Nat.min_eq_left (Nat.le_of_lt ht)]; simp⟩)
                have ht1 : ((a + Z : Nat) : Int) < (s.length : Int) := by omega
                have ht2 : (a : Int) + (Z : Int) < (s.length : Int) := by omega
                have ht3 : ¬ (s.length : Int) ≤ (a : Int) + (Z : Int) := by omega
                have ht4 : (a : Int) + (Z : Int) ≤ (s.length : Int) := by omega
                have ht5 : ¬ (s.length : Int) < (a : Int) + (Z : Int) := by omega
                have ht6 : (a : Int) ≤ (a : Int) + (Z : Int) := by omega
                go_wp2_with (at_builtin; refine wpList_append_own _ rfl _ _ 26 rfl w.heap.size 30 i0 _ 3 32 Try.underlying26 hi hz0 hz1 hz2 rfl (by decide) _ _ _ rfl (HS.out.2.2.1.alloc _) ⟨wr.heap.size, 0, none⟩ 1 1 [.int .i64 ((a : Int) / 8), .bool true, .string (({ data := s.toArray } : ByteArray).extract a (a + Z))] rfl rfl ?c1 ?c2 ?c3 ?c4 ?c5 ?_)
                try (case c1 => exact trip_new _ _ _ _ _ _ rfl)
                case c2 => simp [Value.oneCell']
                case c3 => unfold maxLen; omega
                case c4 => omega
                case c5 => have := HS.out.2.1.size; simp; omega
                intro v' wz hown1 hg1 _
                have HW := Lib.hid (And.intro hown1 hg1)
                clear hown1 hg1
                go_wp2_with fail
                go_roundw
                case rel =>
                  obtain ⟨x, hx, hxe⟩ := HT.out
                  refine ⟨a + Z, f, hs ++ [x], by go_num, by omega, by omega, by rw [List.length_append, List.length_singleton, Nat.add_mul, ← HS.out.2.2.2]; omega, hxe, rowf_grown (HS.out.2.2.1.alloc _) (grownBy_trans HS.out.2.1 (World.grownBy_alloc _ _ _)) HW.out.2, ?_⟩
                  have hq := HW.out.1
                  rw [str_mid] at hq
                  rw [List.length_append, List.length_singleton, fgsV_snoc, hx]
                  exact hq
                case measure => simp [intOf]; omega
              · have HT := Lib.hid (show ∃ x : Fg, x = ⟨(a : Int) / 8, false, (s.drop a).take (s.length - a)⟩ ∧ hs ++ [x] ++ cutF s Z f (a + Z) = cutF s Z (s.length + 1) 0 from ⟨_, rfl, by rw [← HS.out.1, HC.out, decide_eq_false ht, Nat.min_eq_right (by omega)]; simp⟩)
                have ht1 : ¬ (a : Int) + (Z : Int) < (s.length : Int) := by omega
                have ht2 : (s.length : Int) ≤ (a : Int) + (Z : Int) := by omega
                by_cases hte : (s.length : Int) < (a : Int) + (Z : Int)
                · have ht3 : ¬ (a : Int) + (Z : Int) ≤ (s.length : Int) := by omega
                  go_wp2_with (at_builtin; refine wpList_append_own _ rfl _ _ 26 rfl w.heap.size 30 i0 _ 3 32 Try.underlying26 hi hz0 hz1 hz2 rfl (by decide) _ _ _ rfl (HS.out.2.2.1.alloc _) ⟨wr.heap.size, 0, none⟩ 1 1 [.int .i64 ((a : Int) / 8), .bool false, .string (({ data := s.toArray } : ByteArray).extract a (s.length))] rfl rfl ?d1 ?d2 ?d3 ?d4 ?d5 ?_)
                  try (case d1 => exact trip_new _ _ _ _ _ _ rfl)
                  case d2 => simp [Value.oneCell']
                  case d3 => unfold maxLen; omega
                  case d4 => omega
                  case d5 => have := HS.out.2.1.size; simp; omega
                  intro v' wz hown1 hg1 _
                  have HW := Lib.hid (And.intro hown1 hg1)
                  clear hown1 hg1
                  go_wp2_with fail
                  go_roundw
                  case rel =>
                    obtain ⟨x, hx, hxe⟩ := HT.out
                    refine ⟨a + Z, f, hs ++ [x], by go_num, by omega, by omega, by rw [List.length_append, List.length_singleton, Nat.add_mul, ← HS.out.2.2.2]; omega, hxe, rowf_grown (HS.out.2.2.1.alloc _) (grownBy_trans HS.out.2.1 (World.grownBy_alloc _ _ _)) HW.out.2, ?_⟩
                    have hq := HW.out.1
                    rw [str_mid] at hq
                    rw [List.length_append, List.length_singleton, fgsV_snoc, hx]
                    exact hq
                  case measure => simp [intOf]; omega
                · have ht3 : (a : Int) + (Z : Int) ≤ (s.length : Int) := by omega
                  go_wp2_with (at_builtin; refine wpList_append_own _ rfl _ _ 26 rfl w.heap.size 30 i0 _ 3 32 Try.underlying26 hi hz0 hz1 hz2 rfl (by decide) _ _ _ rfl (HS.out.2.2.1.alloc _) ⟨wr.heap.size, 0, none⟩ 1 1 [.int .i64 ((a : Int) / 8), .bool false, .string (({ data := s.toArray } : ByteArray).extract a (a + Z))] rfl rfl ?e1 ?e2 ?e3 ?e4 ?e5 ?_)
                  try (case e1 => exact trip_new _ _ _ _ _ _ rfl)
                  case e2 => simp [Value.oneCell']
                  case e3 => unfold maxLen; omega
                  case e4 => omega
                  case e5 => have := HS.out.2.1.size; simp; omega
                  intro v' wz hown1 hg1 _
                  have HW := Lib.hid (And.intro hown1 hg1)
                  clear hown1 hg1
                  go_wp2_with fail
                  go_roundw
                  case rel =>
                    obtain ⟨x, hx, hxe⟩ := HT.out
                    refine ⟨a + Z, f, hs ++ [x], by go_num, by omega, by omega, by rw [List.length_append, List.length_singleton, Nat.add_mul, ← HS.out.2.2.2]; omega, hxe, rowf_grown (HS.out.2.2.1.alloc _) (grownBy_trans HS.out.2.1 (World.grownBy_alloc _ _ _)) HW.out.2, ?_⟩
                    have hq := HW.out.1
                    rw [str_mid] at hq
                    rw [show a + Z - a = s.length - a by omega] at hq
                    rw [List.length_append, List.length_singleton, fgsV_snoc, hx]
                    exact hq
                  case measure => simp [intOf]; omega
            · have HE := Lib.hid (show fragsL s (Z : Int) = hs by rw [HV.out.2, ← HS.out.1, cut_end _ _ _ _ hlt, List.append_nil])
              go_wp2_with fail
              refine bodyPost_ret (v := .tuple #[.slice la hs.length lc, .bool true]) (by simp [results, Try.results8, go_sem]) rfl ⟨la, lc, by rw [HE.out, decide_eq_true HV.out.1], HS.out.2.1, by rw [HE.out]; exact HS.out.2.2.1⟩
      · have h8b : (z % 8 == 0) = false := by simpa using h8
        have H8 := Lib.hid h8
        clear h8
        go_enter Try.func8, Try.ntmps8
        go_wp2_with (go_at_call 20; refine (in_any _ _ _ _).mono ?_; rintro e w2 ⟨rfl, rfl⟩; first | rw [G1.out] | rw [G2.out])
        refine bodyPost_ret (v := .tuple #[.slice none 0 0, .bool false]) (by simp [results, Try.results8, go_sem]) rfl (fs_no (by exact fun h => H8.out h.2.2.2.2.1) (World.grownBy.refl _ _))

end Go.Proofs.Ytaigdimicnlfdaa
