/- The library's joining of slices, at pieces. -/
import Derived.Test.YtaigdimicnlfdaaPcHol
import Derived.Lib.AppendZeros
import Derived.Laws.AppendOwnNone
namespace Go.Proofs.Ytaigdimicnlfdaa
open Go.RowKit

def GrPost (w : World) (e : Ending) (w' : World) : Prop :=
  ∃ G : Nat, e = .returned (.slice (some ⟨w.heap.size, 0, none⟩) 0 G) ∧ w.grownBy w' none ∧ w'.ownsRow w.heap.size 57 2 (.slice (some ⟨w.heap.size, 0, none⟩) 0 G) 0 []

set_option maxRecDepth 100000 in
set_option maxHeartbeats 4000000 in
theorem grow_nil (n : Nat) (w : World) (h0 : 0 < n) (h1 : n ≤ 1000) : Calls Try.prog 38 #[.slice none 0 0, .int .i64 (n : Int)] w (GrPost w) := by
  obtain ⟨i0, hi, hz0, hz1, hz2⟩ := info_of infoPk
  have hn0 : ¬ (n : Int) < 0 := by omega
  have hn1 : (0 : Int) < (n : Int) := by omega
  have hw : IntKind.i64.wrap (n : Int) = n := IntWalk.i64_in _ (by omega)
  have hrz : ∀ ty, (Builtin.append_ #[70, 3] ty #[.slice none 0 0, .int .i64 (n : Int)]).run Try.prog w = .ok (.slice (some ⟨w.heap.size, 0, none⟩) n (grownCap w n 0 57)) (w.drew.alloc (.cells (Builtin.zeroCells (Value.agg #[.int .i64 0, .string ⟨#[]⟩]).cells n ++ Builtin.zeroCells (Value.agg #[.int .i64 0, .string ⟨#[]⟩]).cells (grownCap w n 0 57 - n)) 57)) := fun ty =>
    Lib.run_append_nil_zeros w 70 3 ty 57 i0 _ .i64 .i64 Try.underlying70 Try.underlying3 hi hz0 n h0 (by omega) (by omega) (by rw [hz2]; omega)
  have hGn : n ≤ grownCap w n 0 57 := grownCap_ge w _ _ _
  have hGm := grownCap_le_maxLen w n 0 57 (by unfold maxLen; omega)
  generalize grownCap w n 0 57 = G at *
  have hsz : (Builtin.zeroCells (Value.agg #[.int .i64 0, .string ⟨#[]⟩]).cells n ++ Builtin.zeroCells (Value.agg #[.int .i64 0, .string ⟨#[]⟩]).cells (G - n)).size = G * 2 := by
    simp only [Array.size_append, size_zeroCells, Value.cells]
    simp
    omega
  have HO := Lib.hid (World.ownsRow_made (base := w.heap.size) (e := 57) (size := 2) w.drew _ G (Nat.le_refl _) hGm hsz)
  have HG := Lib.hid (grownBy_trans (grownBy_drew (a := w) (r := none)) (World.grownBy_alloc w.drew (.cells (Builtin.zeroCells (Value.agg #[.int .i64 0, .string ⟨#[]⟩]).cells n ++ Builtin.zeroCells (Value.agg #[.int .i64 0, .string ⟨#[]⟩]).cells (G - n)) 57) none))
  have hG1 : (G : Int) ≤ 9223372036854775807 := by unfold maxLen at hGm; omega
  generalize w.drew.alloc (.cells (Builtin.zeroCells (Value.agg #[.int .i64 0, .string ⟨#[]⟩]).cells n ++ Builtin.zeroCells (Value.agg #[.int .i64 0, .string ⟨#[]⟩]).cells (G - n)) 57) = w3 at *
  clear hsz hGm
  go_enter Try.func38, Try.ntmps38
  go_wp2_with (at_builtin; refine Lib.wpList_append_run _ rfl _ _ _ _ rfl _ _ rfl rfl _ _ (hrz _) ?_)
  go_wp2_with fail
  go_ret
  exact ⟨G, rfl, HG.out, HO.out⟩

/-- A slice whose cells are those of pieces. -/
def SlAt (w : World) (s : Value) (l : List Pk) : Prop :=
  (s = .slice none 0 0 ∧ l = []) ∨ ∃ (ad : Addr) (c : Nat), s = .slice (some ad) l.length c ∧ ∀ j u, (pksV l)[j]? = some u → w.cell? (ad.add j) = some u
theorem SlAt.kept {w w' : World} {s : Value} {l : List Pk} (h : SlAt w s l) (hg : w.grownBy w' none) : SlAt w' s l := by
  rcases h with h | ⟨ad, c, hs, hc⟩
  · exact .inl h
  · exact .inr ⟨ad, c, hs, fun j u hu => hg.cell (hc j u hu) (by simp)⟩
theorem pksV_one : ∀ (l : List Pk), ∀ u ∈ pksV l, u.oneCell' = true
  | [], u, h => by simp [pksV] at h
  | p :: l, u, h => by
    have e : pksV (p :: l) = .int .i64 p.1 :: .string ⟨p.2.toArray⟩ :: pksV l := rfl
    rw [e] at h
    rcases List.mem_cons.mp h with rfl | h
    · simp [Value.oneCell']
    · rcases List.mem_cons.mp h with rfl | h
      · simp [Value.oneCell']
      · exact pksV_one l u h
theorem pksV_app (l m : List Pk) : pksV (l ++ m) = pksV l ++ pksV m := by simp [pksV]
def catL (L : List (Value × List Pk)) : List Pk := L.flatMap (·.2)
theorem catL_next (L : List (Value × List Pk)) (j : Nat) (h : j < L.length) : catL (L.take (j + 1)) = catL (L.take j) ++ L[j].2 := by
  rw [List.take_succ_eq_append_getElem h, catL, List.flatMap_append]
  simp [catL]
theorem catL_le (L : List (Value × List Pk)) (j : Nat) : (catL (L.take j)).length ≤ (catL L).length := by
  have e : catL L = catL (L.take j) ++ catL (L.drop j) := by rw [catL, catL, catL, ← List.flatMap_append, List.take_append_drop]
  rw [e, List.length_append]
  omega
theorem SlAt.len {w : World} {s : Value} {l : List Pk} (h : SlAt w s l) : ∃ ad c, s = .slice ad l.length c ∧ (ad = none → c = 0 ∧ l = []) := by
  rcases h with ⟨rfl, rfl⟩ | ⟨ad, c, hs, _⟩
  · exact ⟨none, 0, rfl, fun _ => ⟨rfl, rfl⟩⟩
  · exact ⟨some ad, c, hs, fun e => by cases e⟩
def C1Rel (w : World) (L : List (Value × List Pk)) (n i : Value) (wr : World) : Prop :=
  ∃ j : Nat, j ≤ L.length ∧ i = .int .i64 j ∧ n = .int .i64 ((catL (L.take j)).length : Int) ∧ w.grownBy wr none
def C2Rel (w : World) (L : List (Value × List Pk)) (v i : Value) (wr : World) : Prop :=
  ∃ j : Nat, j ≤ L.length ∧ i = .int .i64 j ∧ w.grownBy wr none ∧ wr.ownsRow w.heap.size 57 2 v (catL (L.take j)).length (pksV (catL (L.take j)))
def CcPost (w : World) (l : List Pk) (e : Ending) (w' : World) : Prop :=
  ∃ v, e = .returned v ∧ w.grownBy w' none ∧ w'.ownsRow w.heap.size 57 2 v l.length (pksV l)

set_option maxRecDepth 100000 in
set_option maxHeartbeats 4000000 in
theorem concat_any (g c : Nat) (L : List (Value × List Pk)) (w : World) (h : ∀ j (hj : j < L.length), w.cell? ⟨g, j, none⟩ = some (L[j]).1 ∧ SlAt w (L[j]).1 (L[j]).2) (hl : L.length ≤ 10) (h0 : 0 < (catL L).length) (h1 : (catL L).length ≤ 1000) :
    Calls Try.prog 37 #[.slice (some ⟨g, 0, none⟩) L.length c] w (CcPost w (catL L)) := by
  obtain ⟨i0, hi, hz0, hz1, hz2⟩ := info_of infoPk
  have H := Lib.hid h
  clear h
  go_enter Try.func37, Try.ntmps37
  go_wp2_with fail
  go_loopw [3, 11] (fun n i wr => C1Rel w L n i wr) (fun _ i _ => L.length - (intOf i).toNat)
  case atStart => exact ⟨0, Nat.zero_le _, rfl, by simp [catL], World.grownBy.refl _ _⟩
  case round =>
    obtain ⟨j, hj, rfl, rfl, hg⟩ := hrel
    have HS := Lib.hid hg
    clear hg
    by_cases hlt : j < L.length
    · obtain ⟨d0, hsl⟩ := H.out j hlt
      obtain ⟨ad, cc, hs, hnil⟩ := hsl.len
      rw [hs] at d0
      have d1 := HS.out.cell d0 (by simp)
      have hb1 := catL_le L j
      have hb2 := catL_le L (j + 1)
      have HN := Lib.hid (show (catL (L.take (j + 1))).length = (catL (L.take j)).length + (L[j]).2.length by rw [catL_next L j hlt, List.length_append])
      have hN := HN.out
      have hlt' : (j : Int) < (L.length : Int) := by omega
      have hj0 : (0 : Int) ≤ (j : Int) := by omega
      clear hs hnil d0
      generalize (L[j]).2 = q at *
      generalize (catL (L.take j)).length = n1 at *
      have hw : IntKind.i64.wrap ((n1 : Int) + (q.length : Int)) = (n1 : Int) + q.length := IntWalk.i64_in _ (by omega)
      have hlz : ¬ (n1 : Int) + (q.length : Int) < 0 := by omega
      have HQ := Lib.hid (show (n1 : Int) + (q.length : Int) = ((catL (L.take (j + 1))).length : Int) by rw [HN.out]; omega)
      clear hb1 hb2 hN HN
      go_wp2_with fail
      go_roundw
      case rel => exact ⟨j + 1, hlt, by go_num, by rw [HQ.out], HS.out⟩
      case measure => first | (simp [intOf]; done) | (simp [intOf]; omega)
    · obtain rfl : j = L.length := by omega
      rw [List.take_length]
      go_wp2_with fail
      refine (grow_nil _ _ h0 h1).mono ?_
      rintro e w2 ⟨G, rfl, hg, ho⟩
      have H2 := Lib.hid (And.intro (grownBy_trans HS.out hg) (own_base ho HS.out.size))
      clear hg ho
      go_wp2_with fail
      go_loopw [6, 27] (fun v i wr2 => C2Rel w L v i wr2) (fun _ i _ => L.length - (intOf i).toNat)
      case atStart => exact ⟨0, Nat.zero_le _, rfl, H2.out.1, by simpa [catL, pksV] using H2.out.2⟩
      case round =>
        obtain ⟨j, hj, rfl, hg, hown⟩ := hrel
        have HR := Lib.hid (And.intro hg hown)
        clear hg hown
        by_cases hlt : j < L.length
        · obtain ⟨d0, hsl⟩ := H.out j hlt
          have hb2 := catL_le L (j + 1)
          have HN := Lib.hid (catL_next L j hlt)
          have hN : (catL (L.take (j + 1))).length = (catL (L.take j)).length + (L[j]).2.length := by rw [HN.out, List.length_append]
          have hlt' : (j : Int) < (L.length : Int) := by omega
          have hj0 : (0 : Int) ≤ (j : Int) := by omega
          rcases hsl.kept HR.out.1 with ⟨hs, hnl⟩ | ⟨ad, cc, hs, hcc⟩
          · rw [hs] at d0
            have d1 := HR.out.1.cell d0 (by simp)
            have HE := Lib.hid (show catL (L.take (j + 1)) = catL (L.take j) by rw [HN.out, hnl, List.append_nil])
            clear hs hsl hnl d0 hN hb2
            go_wp2_with (at_builtin; refine wpList_append_own_none rfl _ _ 70 rfl w.heap.size 57 i0 2 Try.underlying70 hi _ _ _ rfl HR.out.2 rfl ?_)
            go_wp2_with fail
            go_roundw
            case rel => exact ⟨j + 1, hlt, by go_num, HR.out.1, by rw [HE.out]; exact HR.out.2⟩
            case measure => first | (simp [intOf]; done) | (simp [intOf]; omega)
          · rw [hs] at d0
            have d1 := HR.out.1.cell d0 (by simp)
            have HC := Lib.hid hcc
            clear hs hsl hcc d0
            generalize (L[j]).2 = q at *
            go_wp2_with (at_builtin; refine wpList_append_own _ rfl _ _ 70 rfl w.heap.size 57 i0 _ 2 24 Try.underlying70 hi hz0 hz1 hz2 rfl (by decide) _ _ _ rfl HR.out.2 ad q.length cc (pksV q) rfl (pksV_len q) HC.out (pksV_one q) ?c3 ?c4 ?c5 ?_)
            case c3 => unfold maxLen; omega
            case c4 => omega
            case c5 => exact HR.out.1.size
            intro v' wz hown1 hg1 _
            have HW := Lib.hid (And.intro (grow_own HR.out.1 hg1 HR.out.2 (Nat.le_refl _)) (show wz.ownsRow w.heap.size 57 2 v' (catL (L.take (j + 1))).length (pksV (catL (L.take (j + 1)))) by
              rw [HN.out, pksV_app, List.length_append]
              exact hown1))
            clear hown1 hg1 hN hb2
            go_wp2_with fail
            go_roundw
            case rel => exact ⟨j + 1, hlt, by go_num, HW.out.1, HW.out.2⟩
            case measure => first | (simp [intOf]; done) | (simp [intOf]; omega)
        · obtain rfl : j = L.length := by omega
          have HW := Lib.hid HR.out.2
          rw [List.take_length] at HW
          go_wp2_with fail
          go_ret
          exact ⟨_, rfl, HR.out.1, HW.out⟩

end Go.Proofs.Ytaigdimicnlfdaa
