/- Notes: rows of notes of one's own, with the rows of their ranges: counted, copied, marked. -/
import Derived.Test.YteffpcgmoegomaaNt
import Derived.Test.YteffpcgmoegomaaIr
namespace Go.Proofs.Yteffpcgmoegomaa
open Go.RowKit Go.ChangeShapes Go.WideShapes

def NtOw (W : World) (S hi : Nat) (u : Nt) : Prop := ∃ q, u.a = some ⟨q, 0, none⟩ ∧ S < q ∧ q < hi ∧ W.ownsRow (S + 1) 64 2 (.slice (some ⟨q, 0, none⟩) u.l.length u.c) u.l.length (rgsV u.l)
theorem NtOw.kept {W W' : World} {S hi : Nat} {u : Nt} (h : NtOw W S hi u) (hg : W.grownBy W' none) : NtOw W' S hi u := by
  obtain ⟨q, h1, h2, h3, h4⟩ := h
  exact ⟨q, h1, h2, h3, own_kept h4 hg⟩
theorem NtOw.mono {W : World} {S hi hj : Nat} {u : Nt} (h : NtOw W S hi u) (hh : hi ≤ hj) : NtOw W S hj u := by
  obtain ⟨q, h1, h2, h3, h4⟩ := h
  exact ⟨q, h1, h2, Nat.lt_of_lt_of_le h3 hh, h4⟩
theorem NtOw.set {W : World} {S hi : Nat} {u : Nt} (h : NtOw W S hi u) (o : Nat) (v : Value) : NtOw (W.setCell ⟨S, o, none⟩ v) S hi u := by
  obtain ⟨q, h1, h2, h3, h4⟩ := h
  exact ⟨q, h1, h2, h3, h4.kept (grownBy_set W S o v) (.inr (by simp [Value.ownBlock]; omega))⟩
structure OwnNts (W : World) (S hi : Nat) (us : List Nt) : Prop where
  row : W.ownsRow S 67 4 (.slice (some ⟨S, 0, none⟩) us.length us.length) us.length (ntsV us)
  sub : ∀ u ∈ us, NtOw W S hi u
  dis : us.Pairwise (fun u v => u.a ≠ v.a)
  lt : S < hi
theorem OwnNts.kept {W W' : World} {S hi : Nat} {us : List Nt} (h : OwnNts W S hi us) (hg : W.grownBy W' none) : OwnNts W' S hi us := ⟨own_kept h.row hg, fun u hu => (h.sub u hu).kept hg, h.dis, h.lt⟩
theorem rgo_set {w : World} {C q n c B o : Nat} {e : TypeId} {xs : List Value} {v : Value} (h : w.ownsRow C e 2 (.slice (some ⟨q, 0, none⟩) n c) n xs) (hne : B ≠ q) : (w.setCell ⟨B, o, none⟩ v).ownsRow C e 2 (.slice (some ⟨q, 0, none⟩) n c) n xs := h.kept (grownBy_set w B o v) (.inr (by simp [Value.ownBlock]; omega))

def sumL (t : List Nt) : Nat := (t.map fun x => x.l.length).sum
theorem sum_next (t : List Nt) (j : Nat) (h : j < t.length) : sumL (t.take (j + 1)) = sumL (t.take j) + (t[j]).l.length := by
  unfold sumL
  rw [List.take_succ_eq_append_getElem h, List.map_append, List.sum_append]
  simp
theorem sum_take (t : List Nt) (j : Nat) : sumL (t.take j) ≤ sumL t := by
  have h : sumL t = sumL (t.take j) + sumL (t.drop j) := by
    unfold sumL
    rw [← List.sum_append, ← List.map_append, List.take_append_drop]
  omega
theorem sum_mem {t : List Nt} {x : Nt} (h : x ∈ t) : x.l.length ≤ sumL t := by
  obtain ⟨i, hi, rfl⟩ := List.getElem_of_mem h
  have a := sum_next t i hi
  have b := sum_take t (i + 1)
  omega
theorem sum_same {t u : List Nt} (h : t.map Nt.o = u.map Nt.o) : sumL t = sumL u := by
  have e : ∀ v : List Nt, sumL v = ((v.map Nt.o).map fun x => x.l.length).sum := fun v => by unfold sumL; rw [List.map_map]; rfl
  rw [e t, e u, h]
def SzORel (w : World) (t : List Nt) (left i : Value) (wr : World) : Prop := ∃ (j : Nat) (q : Int), j ≤ t.length ∧ i = .int .i64 j ∧ left = .int .i64 q ∧ 0 ≤ q ∧ q = 1048576 - (t.length : Int) - (sumL (t.take j) : Int) ∧ w.grownBy wr none
def SzOPost (w : World) (t : List Nt) (e : Ending) (w' : World) : Prop := (∃ r : Int, e = .returned (.int .i64 r) ∧ (0 ≤ r → t.length + sumL t ≤ 1048576)) ∧ w.grownBy w' none

set_option maxRecDepth 100000 in
set_option maxHeartbeats 1000000 in
theorem sz_notesO (ao : Option Addr) (c : Nat) (t : List Nt) (w : World) (h : NtAt w ao t) (ht : t.length ≤ maxLen) (hm : ∀ x ∈ t, x.l.length ≤ maxLen) : Calls Try.prog 21 #[.slice ao t.length c, .int .i64 1048576] w (SzOPost w t) := by
  unfold maxLen at ht hm
  have H := Lib.hid (And.intro h hm)
  clear h hm
  by_cases h1 : (t.length : Int) ≤ 1048576
  · go_enter Try.func21, Try.ntmps21
    go_wp2_with fail
    go_loopw [1, 5] (fun left i wr => SzORel w t left i wr) (fun _ i _ => t.length - (intOf i).toNat)
    case atStart => exact ⟨0, _, Nat.zero_le _, rfl, rfl, by omega, by simp [sumL], World.grownBy.refl _ _⟩
    case round =>
      obtain ⟨j, q, hj, rfl, rfl, q0, hq, hg⟩ := hrel
      have HS := Lib.hid (And.intro hq hg)
      have q1 : q ≤ 1048576 := by omega
      clear hq hg
      by_cases hlt : j < t.length
      · rcases (H.out.1.kept HS.out.2) with h0 | ⟨b, off, rfl, hb, hc⟩
        · rw [h0] at hlt
          simp at hlt
        · obtain ⟨⟨c0, c1, c2, c3⟩, _⟩ := hc j hlt
          have hlm := H.out.2 _ (List.getElem_mem hlt)
          have HN := Lib.hid (sum_next t j hlt)
          clear hc
          generalize t[j] = x at *
          obtain ⟨xk, xf, xn, xa, xc, xl⟩ := x
          dsimp only at c0 c1 c2 c3 hlm
          have hlt' : (j : Int) < (t.length : Int) := by omega
          by_cases hq : (xl.length : Int) ≤ q
          · go_wp2_with fail
            refine (sz_note xk xf xn xa xc xl q _ (by omega) q0 q1).mono ?_
            rintro e w9 ⟨rfl, hg⟩
            rw [if_pos hq]
            have HW := Lib.hid (grownBy_trans HS.out.2 hg)
            have hq2 : ¬ q - (xl.length : Int) < 0 := by omega
            clear hg c0 c1 c2 c3
            go_wp2_with fail
            go_roundw
            case rel => exact ⟨j + 1, _, hlt, by go_num, rfl, by omega, by have a := HN.out; have b := HS.out.1; (try dsimp only at a); omega, HW.out⟩
            case measure => simp [intOf]; omega
          · go_wp2_with fail
            refine (sz_note xk xf xn xa xc xl q _ (by omega) q0 q1).mono ?_
            rintro e w9 ⟨rfl, hg⟩
            rw [if_neg (by omega)]
            have HW := Lib.hid (grownBy_trans HS.out.2 hg)
            clear hg c0 c1 c2 c3
            go_wp2_with fail
            go_ret
            exact ⟨⟨_, rfl, fun h => absurd h (by omega)⟩, HW.out⟩
      · obtain rfl : j = t.length := by omega
        have HQ := Lib.hid (show q = 1048576 - (t.length : Int) - (sumL t : Int) by have h := HS.out.1; rw [List.take_length] at h; exact h)
        go_wp2_with fail
        go_ret
        exact ⟨⟨_, rfl, fun _ => by have := HQ.out; omega⟩, HS.out.2⟩
  · go_enter Try.func21, Try.ntmps21
    go_wp2_with fail
    go_ret
    exact ⟨⟨_, rfl, fun h => absurd h (by omega)⟩, World.grownBy.refl _ _⟩

def ToN1O (w : World) (k f n : Int) (l : List Rg) (e : Ending) (w' : World) : Prop :=
  ∃ q : Nat, e = .returned (.agg #[.int .i64 k, .int .i64 f, .int .i64 n, .slice (some ⟨q, 0, none⟩) l.length l.length]) ∧ w.heap.size ≤ q ∧ w.grownBy w' none ∧ w'.ownsRow w.heap.size 64 2 (.slice (some ⟨q, 0, none⟩) l.length l.length) l.length (rgsV l)

set_option maxRecDepth 100000 in
set_option maxHeartbeats 1000000 in
theorem to_noteO (k f n : Int) (a : Option Addr) (c : Nat) (l : List Rg) (w : World) (h : RgAt w a l) (hl : l.length ≤ 1048576) : Calls Try.prog 53 #[.agg #[.int .i64 k, .int .i64 f, .int .i64 n, .slice a l.length c]] w (ToN1O w k f n l) := by
  obtain ⟨W3, hW⟩ : ∃ W3, W3 = (((w.alloc (.cells #[.int .i64 k, .int .i64 f, .int .i64 n, .slice a l.length c] 85)).alloc (.cells #[.int .i64 0, .int .i64 0, .int .i64 0, .slice none 0 0] 67)).alloc (.cells #[.int .i64 k, .int .i64 f, .int .i64 n, .slice none 0 0] 67)) := ⟨_, rfl⟩
  have hz : W3.heap.size = w.heap.size + 1 + 1 + 1 := by rw [hW, alloc_size, alloc_size, alloc_size]
  have hgr : w.grownBy W3 none := by rw [hW]; exact grownBy_trans (World.grownBy_alloc _ _ _) (grownBy_trans (World.grownBy_alloc _ _ _) (World.grownBy_alloc _ _ _))
  have r0 : W3.cell? ⟨w.heap.size + 1, 0, none⟩ = some (.int .i64 0) := by rw [hW]; go_simp
  have s0 : W3.frozen? ⟨w.heap.size + 1, 0, none⟩ = false := by rw [hW]; go_simp
  have r1 : W3.cell? ⟨w.heap.size + 1, 1, none⟩ = some (.int .i64 0) := by rw [hW]; go_simp
  have s1 : W3.frozen? ⟨w.heap.size + 1, 1, none⟩ = false := by rw [hW]; go_simp
  have r2 : W3.cell? ⟨w.heap.size + 1, 2, none⟩ = some (.int .i64 0) := by rw [hW]; go_simp
  have s2 : W3.frozen? ⟨w.heap.size + 1, 2, none⟩ = false := by rw [hW]; go_simp
  have r3 : W3.cell? ⟨w.heap.size + 1, 3, none⟩ = some (.slice none 0 0) := by rw [hW]; go_simp
  have s3 : W3.frozen? ⟨w.heap.size + 1, 3, none⟩ = false := by rw [hW]; go_simp
  have o0 : W3.cell? ⟨w.heap.size + 1 + 1, 0, none⟩ = some (.int .i64 k) := by rw [hW]; go_simp
  have p0 : W3.frozen? ⟨w.heap.size + 1 + 1, 0, none⟩ = false := by rw [hW]; go_simp
  have o1 : W3.cell? ⟨w.heap.size + 1 + 1, 1, none⟩ = some (.int .i64 f) := by rw [hW]; go_simp
  have p1 : W3.frozen? ⟨w.heap.size + 1 + 1, 1, none⟩ = false := by rw [hW]; go_simp
  have o2 : W3.cell? ⟨w.heap.size + 1 + 1, 2, none⟩ = some (.int .i64 n) := by rw [hW]; go_simp
  have p2 : W3.frozen? ⟨w.heap.size + 1 + 1, 2, none⟩ = false := by rw [hW]; go_simp
  have o3 : W3.cell? ⟨w.heap.size + 1 + 1, 3, none⟩ = some (.slice none 0 0) := by rw [hW]; go_simp
  have p3 : W3.frozen? ⟨w.heap.size + 1 + 1, 3, none⟩ = false := by rw [hW]; go_simp
  have H := Lib.hid (And.intro (h.kept hgr) (And.intro hgr hW))
  have HZ := Lib.hid hz
  have HR := Lib.hid (And.intro r0 (And.intro r1 (And.intro r2 (And.intro r3 (And.intro s0 (And.intro s1 (And.intro s2 s3)))))))
  have HO := Lib.hid (And.intro o0 (And.intro o1 (And.intro o2 (And.intro o3 (And.intro p0 (And.intro p1 (And.intro p2 p3)))))))
  clear h hgr hW hz r0 r1 r2 r3 s0 s1 s2 s3 o0 o1 o2 o3 p0 p1 p2 p3
  go_enter Try.func53, Try.ntmps53
  go_wp2_with fail
  rw [← H.out.2.2]
  refine (to_ranges _ _ _ _ H.out.1 hl).mono ?_
  rintro e w4 ⟨rfl, hg, hr⟩
  rw [HZ.out] at hr ⊢
  have hra := own_base (B' := w.heap.size) hr (by omega)
  obtain ⟨r0, r1, r2, r3, s0, s1, s2, s3⟩ := HR.out
  obtain ⟨o0, o1, o2, o3, p0, p1, p2, p3⟩ := HO.out
  have s0 := frz_keep hg r0 s0
  have r0 := hg.cell r0 (by simp)
  have p0 := frz_keep hg o0 p0
  have o0 := hg.cell o0 (by simp)
  have s1 := frz_keep hg r1 s1
  have r1 := hg.cell r1 (by simp)
  have p1 := frz_keep hg o1 p1
  have o1 := hg.cell o1 (by simp)
  have s2 := frz_keep hg r2 s2
  have r2 := hg.cell r2 (by simp)
  have p2 := frz_keep hg o2 p2
  have o2 := hg.cell o2 (by simp)
  have s3 := frz_keep hg r3 s3
  have r3 := hg.cell r3 (by simp)
  have p3 := frz_keep hg o3 p3
  have o3 := hg.cell o3 (by simp)
  have HG := Lib.hid (And.intro (grownBy_trans H.out.2.1 hg) hra)
  clear hg hr hra
  go_wp2_with fail
  refine bodyPost_ret (v := .agg #[.int .i64 k, .int .i64 f, .int .i64 n, .slice (some ⟨w.heap.size + 1 + 1 + 1, 0, none⟩) l.length l.length]) ?_ rfl ⟨_, rfl, ?_, ?_, ?_⟩
  · simp [results, Try.results53, go_sem, r0, r1, r2, r3]
  · omega
  · repeat (first | with_reducible refine set_new ?_ (by first | omega | (simp; omega)) _ _ | with_reducible exact HG.out.1)
  · repeat (first | with_reducible refine rgo_set ?_ (by omega) | with_reducible exact HG.out.2)

def ToORel (w : World) (t : List Nt) (M : List Value) (i : Value) (wr : World) : Prop :=
  ∃ (j : Nat) (us : List Nt), j ≤ t.length ∧ us.length = j ∧ us.map Nt.o = (t.take j).map Nt.o ∧ i = .int .i64 (j : Nat) ∧ w.grownBy wr none ∧ (∀ u ∈ us, NtOw wr w.heap.size wr.heap.size u) ∧ us.Pairwise (fun u v => u.a ≠ v.a) ∧ wr.ownsRow w.heap.size 67 4 (.slice (some ⟨w.heap.size, 0, none⟩) t.length t.length) t.length (ntsV us ++ M.drop (j * 4))
def ToOPost (w : World) (t : List Nt) (e : Ending) (w' : World) : Prop :=
  ∃ us : List Nt, us.length = t.length ∧ us.map Nt.o = t.map Nt.o ∧ e = .returned (.slice (some ⟨w.heap.size, 0, none⟩) t.length t.length) ∧ w.grownBy w' none ∧ NtAt w' (some ⟨w.heap.size, 0, none⟩) us ∧ OwnNts w' w.heap.size w'.heap.size us

set_option maxRecDepth 100000 in
set_option maxHeartbeats 2000000 in
theorem to_notesO (ao : Option Addr) (c : Nat) (t : List Nt) (w : World) (h : NtAt w ao t) (ht : t.length ≤ 1048576) (hm : ∀ x ∈ t, x.l.length ≤ 1048576) : Calls Try.prog 34 #[.slice ao t.length c] w (ToOPost w t) := by
  obtain ⟨i0, hi, hz0, hz1, hz2⟩ := info_of infoNt
  have H := Lib.hid (And.intro h hm)
  clear h hm
  go_enter Try.func34, Try.ntmps34
  go_wp2_with (at_make; refine wpList_make_full _ rfl _ _ 38 rfl w.heap.size 67 i0 _ 4 Try.underlying38 hi hz0 hz1 _ _ _ _ t.length rfl rfl rfl rfl ?c1 ?c2 ?c3 ?_)
  case c1 => rw [hz2]; omega
  case c2 => unfold maxLen; omega
  case c3 => exact Nat.le_refl _
  intro w1 hown hg
  have HS := Lib.hid (And.intro hown hg)
  clear hown hg
  go_wp2_with fail
  go_loopw [4] (fun i wr => ToORel w t (madeCells #[.int .i64 0, .int .i64 0, .int .i64 0, .slice none 0 0] (t.length * 4)).toList i wr) (fun i _ => t.length - (intOf i).toNat)
  case atStart => exact ⟨0, [], Nat.zero_le _, rfl, by simp, rfl, HS.out.2, by simp, List.Pairwise.nil, by simpa [ntsV] using HS.out.1⟩
  case round =>
    obtain ⟨j, us, hj, hul, huo, rfl, hg, hur, hpw, hown⟩ := hrel
    have HR := Lib.hid (And.intro hg (And.intro hown (And.intro hul (And.intro huo (And.intro hur hpw)))))
    clear hg hown hul huo hur hpw
    by_cases hlt : j < t.length
    · rcases (H.out.1.kept HR.out.1) with h0 | ⟨b, off, rfl, hb, hc⟩
      · rw [h0] at hlt
        simp at hlt
      · obtain ⟨⟨c0, c1, c2, c3⟩, hrg⟩ := hc j hlt
        have hlm := H.out.2 _ (List.getElem_mem hlt)
        clear hc
        have HX := Lib.hid (fun (u : Nt) (hu : u.o = (t[j]).o) => o_next HR.out.2.2.2.1 hlt hu)
        generalize t[j] = y at *
        obtain ⟨k, f, n, a, yc, l⟩ := y
        dsimp only at c0 c1 c2 c3 hrg hlm
        have HRG := Lib.hid hrg
        clear hrg
        have hlt' : (j : Int) < (t.length : Int) := by omega
        go_wp2_with fail
        refine (to_noteO k f n a yc l _ HRG.out hlm).mono ?_
        rintro e w8 ⟨q, rfl, hq, hg, hrq⟩
        have hq2 : w.heap.size < q := Nat.lt_of_lt_of_le (HR.out.2.1.lt _ rfl).2 hq
        have ho0 := HR.out.2.1.kept hg (by simp [Value.ownBlock])
        have hl2 : (ntsV us ++ (madeCells #[.int .i64 0, .int .i64 0, .int .i64 0, .slice none 0 0] (t.length * 4)).toList.drop (j * 4)).length = t.length * 4 := ho0.1
        obtain ⟨y00, d00⟩ : ∃ y, w8.cell? ⟨w.heap.size, j * 4, none⟩ = some y := by
          rw [ho0.cellAt (j * 4) (by omega)]
          exact ⟨_, List.getElem?_eq_getElem (by first | (rw [hl2]; omega) | (simp only [List.length_set]; rw [hl2]; omega))⟩
        have f00 := ho0.frozenAt (j * 4)
        obtain ⟨y01, d01⟩ : ∃ y, w8.cell? ⟨w.heap.size, j * 4 + 1, none⟩ = some y := by
          rw [ho0.cellAt (j * 4 + 1) (by omega)]
          exact ⟨_, List.getElem?_eq_getElem (by first | (rw [hl2]; omega) | (simp only [List.length_set]; rw [hl2]; omega))⟩
        have f01 := ho0.frozenAt (j * 4 + 1)
        obtain ⟨y02, d02⟩ : ∃ y, w8.cell? ⟨w.heap.size, j * 4 + 2, none⟩ = some y := by
          rw [ho0.cellAt (j * 4 + 2) (by omega)]
          exact ⟨_, List.getElem?_eq_getElem (by first | (rw [hl2]; omega) | (simp only [List.length_set]; rw [hl2]; omega))⟩
        have f02 := ho0.frozenAt (j * 4 + 2)
        obtain ⟨y03, d03⟩ : ∃ y, w8.cell? ⟨w.heap.size, j * 4 + 3, none⟩ = some y := by
          rw [ho0.cellAt (j * 4 + 3) (by omega)]
          exact ⟨_, List.getElem?_eq_getElem (by first | (rw [hl2]; omega) | (simp only [List.length_set]; rw [hl2]; omega))⟩
        have f03 := ho0.frozenAt (j * 4 + 3)
        have hs1 := ho0.stored (j * 4) (.int .i64 k)
        have ho1 := hs1.1
        obtain ⟨y11, d11⟩ : ∃ y, (w8.setCell ⟨w.heap.size, j * 4, none⟩ (.int .i64 k)).cell? ⟨w.heap.size, j * 4 + 1, none⟩ = some y := by
          rw [ho1.cellAt (j * 4 + 1) (by omega)]
          exact ⟨_, List.getElem?_eq_getElem (by first | (rw [hl2]; omega) | (simp only [List.length_set]; rw [hl2]; omega))⟩
        have f11 := ho1.frozenAt (j * 4 + 1)
        obtain ⟨y12, d12⟩ : ∃ y, (w8.setCell ⟨w.heap.size, j * 4, none⟩ (.int .i64 k)).cell? ⟨w.heap.size, j * 4 + 2, none⟩ = some y := by
          rw [ho1.cellAt (j * 4 + 2) (by omega)]
          exact ⟨_, List.getElem?_eq_getElem (by first | (rw [hl2]; omega) | (simp only [List.length_set]; rw [hl2]; omega))⟩
        have f12 := ho1.frozenAt (j * 4 + 2)
        obtain ⟨y13, d13⟩ : ∃ y, (w8.setCell ⟨w.heap.size, j * 4, none⟩ (.int .i64 k)).cell? ⟨w.heap.size, j * 4 + 3, none⟩ = some y := by
          rw [ho1.cellAt (j * 4 + 3) (by omega)]
          exact ⟨_, List.getElem?_eq_getElem (by first | (rw [hl2]; omega) | (simp only [List.length_set]; rw [hl2]; omega))⟩
        have f13 := ho1.frozenAt (j * 4 + 3)
        have hs2 := ho1.stored (j * 4 + 1) (.int .i64 f)
        have ho2 := hs2.1
        obtain ⟨y22, d22⟩ : ∃ y, ((w8.setCell ⟨w.heap.size, j * 4, none⟩ (.int .i64 k)).setCell ⟨w.heap.size, j * 4 + 1, none⟩ (.int .i64 f)).cell? ⟨w.heap.size, j * 4 + 2, none⟩ = some y := by
          rw [ho2.cellAt (j * 4 + 2) (by omega)]
          exact ⟨_, List.getElem?_eq_getElem (by first | (rw [hl2]; omega) | (simp only [List.length_set]; rw [hl2]; omega))⟩
        have f22 := ho2.frozenAt (j * 4 + 2)
        obtain ⟨y23, d23⟩ : ∃ y, ((w8.setCell ⟨w.heap.size, j * 4, none⟩ (.int .i64 k)).setCell ⟨w.heap.size, j * 4 + 1, none⟩ (.int .i64 f)).cell? ⟨w.heap.size, j * 4 + 3, none⟩ = some y := by
          rw [ho2.cellAt (j * 4 + 3) (by omega)]
          exact ⟨_, List.getElem?_eq_getElem (by first | (rw [hl2]; omega) | (simp only [List.length_set]; rw [hl2]; omega))⟩
        have f23 := ho2.frozenAt (j * 4 + 3)
        have hs3 := ho2.stored (j * 4 + 2) (.int .i64 n)
        have ho3 := hs3.1
        obtain ⟨y33, d33⟩ : ∃ y, (((w8.setCell ⟨w.heap.size, j * 4, none⟩ (.int .i64 k)).setCell ⟨w.heap.size, j * 4 + 1, none⟩ (.int .i64 f)).setCell ⟨w.heap.size, j * 4 + 2, none⟩ (.int .i64 n)).cell? ⟨w.heap.size, j * 4 + 3, none⟩ = some y := by
          rw [ho3.cellAt (j * 4 + 3) (by omega)]
          exact ⟨_, List.getElem?_eq_getElem (by first | (rw [hl2]; omega) | (simp only [List.length_set]; rw [hl2]; omega))⟩
        have f33 := ho3.frozenAt (j * 4 + 3)
        have hs4 := ho3.stored (j * 4 + 3) (.slice (some ⟨q, 0, none⟩) l.length l.length)
        have ho4 := hs4.1
        have hne := nts_set us ⟨k, f, n, some ⟨q, 0, none⟩, l.length, l⟩ (madeCells #[.int .i64 0, .int .i64 0, .int .i64 0, .slice none 0 0] (t.length * 4)).toList j t.length HR.out.2.2.1 hlt (by simp [size_madeCells])
        dsimp only at hne
        rw [hne] at ho4
        have hst := grownBy_trans (grownBy_trans (grownBy_trans hs1.2 hs2.2) hs3.2) hs4.2
        have hlw : w.heap.size < wr.heap.size := (HR.out.2.1.lt w.heap.size rfl).2
        have hql := (World.ownsRow.lt hrq q rfl).2
        have hmem : ∀ u ∈ us ++ [(⟨k, f, n, some ⟨q, 0, none⟩, l.length, l⟩ : Nt)], NtOw ((((w8.setCell ⟨w.heap.size, j * 4, none⟩ (.int .i64 k)).setCell ⟨w.heap.size, j * 4 + 1, none⟩ (.int .i64 f)).setCell ⟨w.heap.size, j * 4 + 2, none⟩ (.int .i64 n)).setCell ⟨w.heap.size, j * 4 + 3, none⟩ (.slice (some ⟨q, 0, none⟩) l.length l.length)) w.heap.size ((((w8.setCell ⟨w.heap.size, j * 4, none⟩ (.int .i64 k)).setCell ⟨w.heap.size, j * 4 + 1, none⟩ (.int .i64 f)).setCell ⟨w.heap.size, j * 4 + 2, none⟩ (.int .i64 n)).setCell ⟨w.heap.size, j * 4 + 3, none⟩ (.slice (some ⟨q, 0, none⟩) l.length l.length)).heap.size u := by
          intro u hu
          have hx : NtOw w8 w.heap.size w8.heap.size u := by
            rcases List.mem_append.1 hu with hu | hu
            · exact ((HR.out.2.2.2.2.1 u hu).kept hg).mono hg.size
            · obtain rfl := List.mem_singleton.1 hu
              exact ⟨q, rfl, hq2, hql, own_base hrq (by omega)⟩
          exact ((((hx.set _ _).set _ _).set _ _).set _ _).mono (by simp)
        have hpw : (us ++ [(⟨k, f, n, some ⟨q, 0, none⟩, l.length, l⟩ : Nt)]).Pairwise (fun u v => u.a ≠ v.a) := by
          refine List.pairwise_append.2 ⟨HR.out.2.2.2.2.2, List.pairwise_singleton _ _, fun u hu v hv => ?_⟩
          obtain rfl := List.mem_singleton.1 hv
          obtain ⟨g, g1, _, g3, _⟩ := HR.out.2.2.2.2.1 u hu
          rw [g1]
          intro e
          simp only [Option.some.injEq, Addr.mk.injEq, and_true] at e
          omega
        have HW := Lib.hid (And.intro ho4 (And.intro (grownBy_new (grownBy_trans HR.out.1 hg) hst (Nat.le_refl _)) (And.intro (And.intro hmem hpw) (HX.out ⟨k, f, n, some ⟨q, 0, none⟩, l.length, l⟩ rfl))))
        have HU := Lib.hid (show (us ++ [(⟨k, f, n, some ⟨q, 0, none⟩, l.length, l⟩ : Nt)]).length = j + 1 by rw [List.length_append, HR.out.2.2.1]; rfl)
        clear hg c0 c1 c2 c3 ho0 ho1 ho2 ho3 ho4 hl2 hs1 hs2 hs3 hs4 hne hst hmem hrq hpw hlw hql
        go_wp2_with fail
        go_roundw
        case rel => exact ⟨j + 1, _, hlt, HU.out, HW.out.2.2.2, by go_num, HW.out.2.1, HW.out.2.2.1.1, HW.out.2.2.1.2, HW.out.1⟩
        case measure => simp [intOf]; omega
    · obtain rfl : j = t.length := by omega
      have hown := HR.out.2.1
      rw [List.drop_eq_nil_of_le (by simp [size_madeCells]), List.append_nil] at hown
      have hn := ntAt_own hown HR.out.2.2.1.symm (fun u hu => by obtain ⟨q, h1, _, _, h⟩ := HR.out.2.2.2.2.1 u hu; rw [h1]; exact rg_own h)
      have hon : OwnNts wr w.heap.size wr.heap.size us := ⟨by rw [HR.out.2.2.1]; exact hown, HR.out.2.2.2.2.1, HR.out.2.2.2.2.2, (hown.lt _ rfl).2⟩
      have HW := Lib.hid (And.intro hn (And.intro (show us.map Nt.o = t.map Nt.o by have h := HR.out.2.2.2.1; rw [List.take_length] at h; exact h) hon))
      clear hown hn hon
      go_wp2_with fail
      go_ret
      exact ⟨us, HR.out.2.2.1, HW.out.2.1, rfl, HR.out.1, HW.out.1, HW.out.2.2⟩

def MkNRel (w : World) (S hi : Nat) (us : List Nt) (k i : Value) (wr : World) : Prop :=
  ∃ (j : Nat) (q : Int) (X : List Value), j ≤ us.length ∧ i = .int .i64 j ∧ k = .int .i64 q ∧ 1 ≤ q ∧ q ≤ 1 + 3 * (j : Int) + 2 * (sumL (us.take j) : Int) ∧ MidBy w wr S hi ∧ wr.ownsRow S 67 4 (.slice (some ⟨S, 0, none⟩) us.length us.length) us.length X ∧ (∀ i (h : i < us.length), X[i * 4 + 3]? = some (.slice (us[i]).a (us[i]).l.length (us[i]).c)) ∧ (∀ u ∈ us.drop j, NtOw wr S hi u)
theorem pw_later {us : List Nt} (h : us.Pairwise (fun u v => u.a ≠ v.a)) (j : Nat) (hj : j < us.length) : ∀ u ∈ us.drop (j + 1), (us[j]).a ≠ u.a := by
  intro u hu
  have e : us.drop j = us[j] :: us.drop (j + 1) := List.drop_eq_getElem_cons hj
  have h2 := h.sublist (List.drop_sublist j us)
  rw [e] at h2
  exact (List.pairwise_cons.1 h2).1 u hu
theorem set_far {X : List Value} {i j : Nat} {v w : Value} (h : X[i]? = some v) (hne : j ≠ i) : (X.set j w)[i]? = some v := by
  rw [List.getElem?_set_ne hne]
  exact h

end Go.Proofs.Yteffpcgmoegomaa
