/- Rows of pieces (an int and a text), the laws' own helpers of them: their size, a copy of them, whether two rows of them are the same. -/
import Derived.Test.YteffpcgmoegomaaDrawB
import Derived.Deep.RegionHeld3
namespace Go.Proofs.Yteffpcgmoegomaa.P7
open Go.RowKit

theorem grownBy_drew {a : World} {r : Option Nat} : a.grownBy a.drew r := ⟨rfl, rfl, rfl, Nat.le_refl _, fun _ _ _ => rfl⟩

abbrev Pk := Int × List UInt8
/-- The packets of a slice, in cells. -/
def PkAt (w : World) (a : Option Addr) (l : List Pk) : Prop :=
  l = [] ∨ ∃ b off, a = some ⟨b, off, none⟩ ∧ b < w.heap.size ∧ ∀ i (h : i < l.length), w.cell? ⟨b, off + i * 2, none⟩ = some (.int .i64 (l[i]).1) ∧ w.cell? ⟨b, off + i * 2 + 1, none⟩ = some (.string ⟨(l[i]).2.toArray⟩)
theorem PkAt.kept {w w' : World} {a : Option Addr} {l : List Pk} (h : PkAt w a l) (hg : w.grownBy w' none) : PkAt w' a l := by
  rcases h with h | ⟨b, off, ha, hb, hc⟩
  · exact .inl h
  · exact .inr ⟨b, off, ha, Nat.lt_of_lt_of_le hb hg.size, fun i hi => ⟨hg.cell (hc i hi).1 (by simp), hg.cell (hc i hi).2 (by simp)⟩⟩

theorem all_next {α : Type} {P : α → Prop} (l : List α) (j : Nat) (h : j < l.length) (ha : ∀ x ∈ l.take j, P x) (hx : P l[j]) : ∀ x ∈ l.take (j + 1), P x := by
  intro x hm
  rw [List.take_succ_eq_append_getElem h, List.mem_append, List.mem_singleton] at hm
  rcases hm with hm | rfl
  · exact ha x hm
  · exact hx

def pkV (p : Pk) : List Value := [.int .i64 p.1, .string ⟨p.2.toArray⟩]
def pksV (l : List Pk) : List Value := l.flatMap pkV
theorem pksV_len : ∀ l : List Pk, (pksV l).length = l.length * 2
  | [] => rfl
  | p :: l => by
    have := pksV_len l
    simp only [pksV, List.flatMap_cons, List.length_append, List.length_cons] at this ⊢
    rw [this]
    simp [pkV]
    omega
theorem pksV_get : ∀ (l : List Pk) (i : Nat) (h : i < l.length), (pksV l)[i * 2]? = some (.int .i64 (l[i]).1) ∧ (pksV l)[i * 2 + 1]? = some (.string ⟨(l[i]).2.toArray⟩)
  | p :: l, 0, _ => by simp [pksV, pkV]
  | p :: l, i + 1, h => by
    have a := pksV_get l i (by simpa using h)
    have e : pksV (p :: l) = .int .i64 p.1 :: .string ⟨p.2.toArray⟩ :: pksV l := rfl
    rw [e, show (i + 1) * 2 = i * 2 + 1 + 1 from by omega]
    simpa using a
theorem pks_set (l : List Pk) (M : List Value) (j : Nat) (h : j < l.length) (hM : M.length = l.length * 2) :
    ((pksV (l.take j) ++ M.drop (j * 2)).set (j * 2) (.int .i64 (l[j]).1)).set (j * 2 + 1) (.string ⟨(l[j]).2.toArray⟩) = pksV (l.take (j + 1)) ++ M.drop ((j + 1) * 2) := by
  have e1 : M.drop (j * 2) = M[j * 2] :: M[j * 2 + 1] :: M.drop ((j + 1) * 2) := by
    rw [List.drop_eq_getElem_cons (by omega), List.drop_eq_getElem_cons (by omega)]
    rw [show (j + 1) * 2 = j * 2 + 1 + 1 from by omega]
  have e2 : (pksV (l.take j)).length = j * 2 := by rw [pksV_len, List.length_take]; omega
  have e3 : pksV (l.take (j + 1)) = pksV (l.take j) ++ pkV l[j] := by
    rw [List.take_succ_eq_append_getElem h, pksV, List.flatMap_append]
    simp [pksV]
  rw [e1, e3, List.set_append_right _ _ (by omega), List.set_append_right _ _ (by omega), e2]
  simp [pkV]

theorem pkAt_own {w : World} {base : Nat} {e : TypeId} {g n c : Nat} {l : List Pk} (h : w.ownsRow base e 2 (.slice (some ⟨g, 0, none⟩) n c) n (pksV l)) (hn : n = l.length) : PkAt w (some ⟨g, 0, none⟩) l := by
  subst hn
  refine .inr ⟨g, 0, rfl, (h.lt g rfl).2, fun i hi => ?_⟩
  obtain ⟨a, b⟩ := pksV_get l i hi
  rw [Nat.zero_add, h.cellAt (i * 2) (by omega), h.cellAt (i * 2 + 1) (by omega)]
  exact ⟨a, b⟩

set_option maxRecDepth 100000 in
theorem sz_packet (t : Int) (m : List UInt8) (k : Int) (w : World) (h0 : 0 ≤ k) (h1 : k ≤ 1048576) (hm : (m.length : Int) ≤ 9223372036854775807) : Calls Try.prog 48 #[.agg #[.int .i64 t, .string ⟨m.toArray⟩], .int .i64 k] w fun e w' => e = .returned (.int .i64 (if (m.length : Int) ≤ k then k - m.length else -1)) ∧ w.grownBy w' none := by
  by_cases h : (m.length : Int) ≤ k
  · rw [if_pos h]
    go_enter Try.func48, Try.ntmps48
    go_wp2
    go_ret
    exact ⟨rfl, World.grownBy_alloc _ _ _⟩
  · rw [if_neg h]
    go_enter Try.func48, Try.ntmps48
    go_wp2
    go_ret
    exact ⟨rfl, World.grownBy_alloc _ _ _⟩

set_option maxRecDepth 100000 in
theorem to_packet (t : Int) (m : List UInt8) (w : World) : Calls Try.prog 51 #[.agg #[.int .i64 t, .string ⟨m.toArray⟩]] w fun e w' => e = .returned (.agg #[.int .i64 t, .string ⟨m.toArray⟩]) ∧ w.grownBy w' none := by
  go_enter Try.func51, Try.ntmps51
  go_wp2
  exact bodyPost_ret (v := .agg #[.int .i64 t, .string ⟨m.toArray⟩]) (by simp [results, Try.results51, go_sem]) rfl ⟨rfl, grownBy_trans (World.grownBy_alloc _ _ _) (grownBy_trans (World.grownBy_alloc _ _ _) (World.grownBy_alloc _ _ _))⟩

set_option maxRecDepth 100000 in
theorem eq_packet (t : Int) (m : List UInt8) (w : World) : Calls Try.prog 66 #[.agg #[.int .i64 t, .string ⟨m.toArray⟩], .agg #[.int .i64 t, .string ⟨m.toArray⟩]] w fun e w' => e = .returned (.bool true) ∧ w.grownBy w' none := by
  go_enter Try.func66, Try.ntmps66
  go_wp2
  go_ret
  exact ⟨rfl, grownBy_trans (World.grownBy_alloc _ _ _) (World.grownBy_alloc _ _ _)⟩

def SzRel (w : World) (l : List Pk) (k i : Value) (wr : World) : Prop :=
  ∃ (j : Nat) (q : Int), j ≤ l.length ∧ i = .int .i64 j ∧ k = .int .i64 q ∧ 0 ≤ q ∧ q ≤ 1048576 ∧ w.grownBy wr none ∧ ∀ x ∈ l.take j, x.2.length ≤ 1048576
def SzPost (w : World) (l : List Pk) (e : Ending) (w' : World) : Prop :=
  ∃ q : Int, e = .returned (.int .i64 q) ∧ w.grownBy w' none ∧ (0 ≤ q → l.length ≤ 1048576 ∧ ∀ x ∈ l, x.2.length ≤ 1048576)

set_option maxRecDepth 100000 in
set_option maxHeartbeats 1000000 in
theorem sz_packets (a : Option Addr) (c : Nat) (l : List Pk) (w : World) (h : PkAt w a l) (hl : l.length ≤ 9223372036854775807) (hm : ∀ x ∈ l, x.2.length ≤ 9223372036854775807) : Calls Try.prog 19 #[.slice a l.length c, .int .i64 1048576] w (SzPost w l) := by
  have H := Lib.hid h
  have HM := Lib.hid hm
  clear h hm
  by_cases hn : (l.length : Int) ≤ 1048576
  · go_enter Try.func19, Try.ntmps19
    go_wp2_with fail
    go_loopw [1, 5] (fun k i wr => SzRel w l k i wr) (fun _ i _ => l.length - (intOf i).toNat)
    case atStart => exact ⟨0, 1048576 - l.length, Nat.zero_le _, rfl, rfl, by omega, by omega, World.grownBy.refl _ _, by simp⟩
    case round =>
      obtain ⟨j, q, hj, rfl, rfl, hq0, hq1, hg, hall⟩ := hrel
      have HS := Lib.hid (And.intro hg hall)
      clear hg hall
      by_cases hlt : j < l.length
      · rcases (H.out.kept HS.out.1) with h0 | ⟨b, off, rfl, hb, hc⟩
        · rw [h0] at hlt
          simp at hlt
        · obtain ⟨c0, c1⟩ := hc j hlt
          clear hc
          have hmx := HM.out l[j] (List.getElem_mem hlt)
          have HX := Lib.hid (all_next (P := fun x : Pk => x.2.length ≤ 1048576) l j hlt HS.out.2)
          generalize l[j] = x at *
          obtain ⟨t, m⟩ := x
          simp only at hmx
          have hlt' : (j : Int) < (l.length : Int) := by omega
          by_cases hm : (m.length : Int) ≤ q
          · go_wp2_with fail
            refine (sz_packet t m q _ hq0 hq1 (by omega)).mono ?_
            rintro e w8 ⟨rfl, hg⟩
            rw [if_pos hm]
            have H8 := Lib.hid (grownBy_trans HS.out.1 hg)
            clear hg c0 c1
            have hq2 : 0 ≤ q - (m.length : Int) := by omega
            have hq3 : q - (m.length : Int) ≤ 1048576 := by omega
            go_wp2_with fail
            go_roundw
            case rel => exact ⟨j + 1, _, hlt, by go_num, rfl, hq2, hq3, H8.out, HX.out (by show m.length ≤ _; omega)⟩
            case measure => simp [intOf]; omega
          · go_wp2_with fail
            refine (sz_packet t m q _ hq0 hq1 (by omega)).mono ?_
            rintro e w8 ⟨rfl, hg⟩
            rw [if_neg (by omega : ¬ (m.length : Int) ≤ q)]
            have H8 := Lib.hid (grownBy_trans HS.out.1 hg)
            clear hg c0 c1
            go_wp2_with fail
            go_ret
            exact ⟨_, rfl, H8.out, by omega⟩
      · obtain rfl : j = l.length := by omega
        go_wp2_with fail
        go_ret
        exact ⟨_, rfl, HS.out.1, fun _ => ⟨by omega, fun x hx => HS.out.2 x (by rw [List.take_length]; exact hx)⟩⟩
  · go_enter Try.func19, Try.ntmps19
    go_wp2_with fail
    go_ret
    exact ⟨_, rfl, World.grownBy.refl _ _, by omega⟩

theorem infoPk : (Try.prog.info? 61).map (fun i => (i.zero, i.size, i.bytes)) = some (some (.agg #[.int .i64 0, .string ⟨#[]⟩]), 2, 24) := by kernel_rfl

theorem info_of {T : TypeId} {z : Value} {s b : Nat} (h : (Try.prog.info? T).map (fun i => (i.zero, i.size, i.bytes)) = some (some z, s, b)) : ∃ i, Try.prog.info? T = some i ∧ i.zero = some z ∧ i.size = s ∧ i.bytes = b := by
  cases hi : Try.prog.info? T with
  | none => rw [hi] at h; cases h
  | some i =>
    rw [hi] at h
    simp at h
    exact ⟨i, rfl, h.1, h.2.1, h.2.2⟩

def ToRel (w : World) (l : List Pk) (M : List Value) (i : Value) (wr : World) : Prop :=
  ∃ j : Nat, j ≤ l.length ∧ i = .int .i64 j ∧ w.grownBy wr none ∧ wr.ownsRow w.heap.size 61 2 (.slice (some ⟨w.heap.size, 0, none⟩) l.length l.length) l.length (pksV (l.take j) ++ M.drop (j * 2))
def ToPost (w : World) (l : List Pk) (e : Ending) (w' : World) : Prop :=
  ∃ g : Nat, e = .returned (.slice (some ⟨g, 0, none⟩) l.length l.length) ∧ w.grownBy w' none ∧ PkAt w' (some ⟨g, 0, none⟩) l

set_option maxRecDepth 100000 in
set_option maxHeartbeats 1000000 in
theorem to_packets (a : Option Addr) (c : Nat) (l : List Pk) (w : World) (h : PkAt w a l) (hl : l.length ≤ 1048576) : Calls Try.prog 32 #[.slice a l.length c] w (ToPost w l) := by
  obtain ⟨i0, hi, hz0, hz1, hz2⟩ := info_of infoPk
  have H := Lib.hid h
  clear h
  go_enter Try.func32, Try.ntmps32
  go_wp2_with (at_make; refine wpList_make_full _ rfl _ _ 37 rfl w.heap.size 61 i0 _ 2 Try.underlying37 hi hz0 hz1 _ _ _ _ l.length rfl rfl rfl rfl ?c1 ?c2 ?c3 ?_)
  case c1 => rw [hz2]; omega
  case c2 => unfold maxLen; omega
  case c3 => exact Nat.le_refl _
  intro w1 hown hg
  have HS := Lib.hid (And.intro hown hg)
  clear hown hg
  go_wp2_with fail
  go_loopw [4] (fun i wr => ToRel w l (madeCells #[.int .i64 0, .string ⟨#[]⟩] (l.length * 2)).toList i wr) (fun i _ => l.length - (intOf i).toNat)
  case atStart => exact ⟨0, Nat.zero_le _, rfl, HS.out.2, by simpa [pksV] using HS.out.1⟩
  case round =>
    obtain ⟨j, hj, rfl, hg, hown⟩ := hrel
    have HR := Lib.hid (And.intro hg hown)
    clear hg hown
    by_cases hlt : j < l.length
    · rcases (H.out.kept HR.out.1) with h0 | ⟨b, off, rfl, hb, hc⟩
      · rw [h0] at hlt
        simp at hlt
      · obtain ⟨c0, c1⟩ := hc j hlt
        clear hc
        have HN := Lib.hid (pks_set l _ j hlt (by simp [size_madeCells] : (madeCells #[.int .i64 0, .string ⟨#[]⟩] (l.length * 2)).toList.length = l.length * 2))
        generalize l[j] = x at *
        obtain ⟨t, m⟩ := x
        have hlt' : (j : Int) < (l.length : Int) := by omega
        go_wp2_with fail
        refine (to_packet t m _).mono ?_
        rintro e w8 ⟨rfl, hg⟩
        have hown := HR.out.2.kept hg (by simp [Value.ownBlock])
        have hl2 : (pksV (l.take j) ++ (madeCells #[.int .i64 0, .string ⟨#[]⟩] (l.length * 2)).toList.drop (j * 2)).length = l.length * 2 := hown.1
        obtain ⟨y0, d0⟩ : ∃ y, w8.cell? ⟨w.heap.size, j * 2, none⟩ = some y := by
          rw [hown.cellAt (j * 2) (by omega)]
          exact ⟨_, List.getElem?_eq_getElem (by rw [hl2]; omega)⟩
        obtain ⟨y1, d1⟩ : ∃ y, w8.cell? ⟨w.heap.size, j * 2 + 1, none⟩ = some y := by
          rw [hown.cellAt (j * 2 + 1) (by omega)]
          exact ⟨_, List.getElem?_eq_getElem (by rw [hl2]; omega)⟩
        have f0 := hown.frozenAt (j * 2)
        have f1 := hown.frozenAt (j * 2 + 1)
        have hs1 := hown.stored (j * 2) (.int .i64 t)
        have f2 := hs1.1.frozenAt (j * 2 + 1)
        obtain ⟨y, d2⟩ : ∃ y, (w8.setCell ⟨w.heap.size, j * 2, none⟩ (.int .i64 t)).cell? ⟨w.heap.size, j * 2 + 1, none⟩ = some y := by
          rw [hs1.1.cellAt (j * 2 + 1) (by omega)]
          exact ⟨_, List.getElem?_eq_getElem (by rw [List.length_set, hl2]; omega)⟩
        have hs2 := hs1.1.stored (j * 2 + 1) (.string ⟨m.toArray⟩)
        have hs3 := hs2.1
        have hne := HN.out
        try dsimp only at hne
        rw [hne] at hs3
        have HW := Lib.hid (And.intro hs3 (grownBy_new (grownBy_trans HR.out.1 hg) (grownBy_trans hs1.2 hs2.2) (Nat.le_refl _)))
        clear hg c0 c1 hown hl2 hs1 hs2 hs3 hne
        go_wp2_with fail
        go_roundw
        case rel => exact ⟨j + 1, hlt, by go_num, HW.out.2, HW.out.1⟩
        case measure => simp [intOf]; omega
    · obtain rfl : j = l.length := by omega
      have hown := HR.out.2
      rw [List.take_length, List.drop_eq_nil_of_le (by simp [size_madeCells]), List.append_nil] at hown
      have HW := Lib.hid (pkAt_own hown rfl)
      clear hown
      go_wp2_with fail
      go_ret
      exact ⟨_, rfl, HR.out.1, HW.out⟩

def EqRel (w : World) (n : Nat) (i : Value) (wr : World) : Prop := ∃ j : Nat, j ≤ n ∧ i = .int .i64 j ∧ w.grownBy wr none

set_option maxRecDepth 100000 in
set_option maxHeartbeats 1000000 in
theorem eq_packets (a b : Option Addr) (c d : Nat) (l : List Pk) (w : World) (h : PkAt w a l) (k : PkAt w b l) (hl : l.length ≤ 1048576) : Calls Try.prog 44 #[.slice a l.length c, .slice b l.length d] w fun e w' => e = .returned (.bool true) ∧ w.grownBy w' none := by
  have H := Lib.hid (And.intro h k)
  clear h k
  go_enter Try.func44, Try.ntmps44
  go_wp2_with fail
  go_loopw [5] (fun i wr => EqRel w l.length i wr) (fun i _ => l.length - (intOf i).toNat)
  case atStart => exact ⟨0, Nat.zero_le _, rfl, World.grownBy.refl _ _⟩
  case round =>
    obtain ⟨j, hj, rfl, hg⟩ := hrel
    have HS := Lib.hid hg
    clear hg
    by_cases hlt : j < l.length
    · rcases (H.out.1.kept HS.out) with h0 | ⟨b1, off1, rfl, hb1, hc⟩
      · rw [h0] at hlt
        simp at hlt
      · rcases (H.out.2.kept HS.out) with h0 | ⟨b2, off2, rfl, hb2, hd⟩
        · rw [h0] at hlt
          simp at hlt
        · obtain ⟨c0, c1⟩ := hc j hlt
          obtain ⟨d0, d1⟩ := hd j hlt
          clear hc hd
          generalize l[j] = x at *
          obtain ⟨t, m⟩ := x
          have hlt' : (j : Int) < (l.length : Int) := by omega
          have hj0 : (0 : Int) ≤ (j : Int) := by omega
          have z0 := grownBy_trans HS.out (grownBy_drew (r := none))
          go_wp2_with fail
          go_region_held3 (fun w' => w'.cell? ⟨b1, off1 + j * 2, none⟩ = some (.int .i64 t) ∧ w'.cell? ⟨b1, off1 + j * 2 + 1, none⟩ = some (.string ⟨m.toArray⟩) ∧ w'.cell? ⟨b2, off2 + j * 2, none⟩ = some (.int .i64 t) ∧ w'.cell? ⟨b2, off2 + j * 2 + 1, none⟩ = some (.string ⟨m.toArray⟩) ∧ w.grownBy w' none) ((refine ⟨by first | assumption | (simp [*]; done), by first | assumption | (simp [*]; done), by first | assumption | (simp [*]; done), by first | assumption | (simp [*]; done), by assumption⟩))
            (first | (go_at_call 66; refine (eq_packet _ _ _).mono ?_; rintro e w9 ⟨rfl, hg⟩; have q0 := hg.cell (a := ⟨b1, off1 + j * 2, none⟩) (v := .int .i64 t) (by first | assumption | (simp [*]; done)) (by simp); have q1 := hg.cell (a := ⟨b1, off1 + j * 2 + 1, none⟩) (v := .string ⟨m.toArray⟩) (by first | assumption | (simp [*]; done)) (by simp); have q2 := hg.cell (a := ⟨b2, off2 + j * 2, none⟩) (v := .int .i64 t) (by first | assumption | (simp [*]; done)) (by simp); have q3 := hg.cell (a := ⟨b2, off2 + j * 2 + 1, none⟩) (v := .string ⟨m.toArray⟩) (by first | assumption | (simp [*]; done)) (by simp); have q4 := grownBy_trans (a := w) (by assumption) hg))
          have HZ := Lib.hid (by assumption : w.grownBy w9 none)
          go_wp2_with fail
          go_roundw
          case rel => exact ⟨j + 1, hlt, by go_num, HZ.out⟩
          case measure => simp [intOf]; omega
    · obtain rfl : j = l.length := by omega
      go_wp2_with fail
      go_ret
      exact ⟨rfl, HS.out⟩

/-- A list out of what is known at each index. -/
theorem list_of {α : Type} {P : Nat → α → Prop} : ∀ n : Nat, (∀ i, i < n → ∃ x, P i x) → ∃ l : List α, l.length = n ∧ ∀ i (h : i < l.length), P i l[i]
  | 0, _ => ⟨[], rfl, fun i h => by simp at h⟩
  | n + 1, h => by
    obtain ⟨l, hl, hp⟩ := list_of n (fun i hi => h i (by omega))
    obtain ⟨x, hx⟩ := h n (by omega)
    refine ⟨l ++ [x], by simp [hl], fun i hi => ?_⟩
    by_cases e : i < l.length
    · rw [List.getElem_append_left e]
      exact hp i e
    · have e2 : i = l.length := by simp at hi; omega
      subst e2
      rw [List.getElem_append_right (Nat.le_refl _)]
      simp only [Nat.sub_self, List.getElem_cons_zero]
      rw [hl]
      exact hx

theorem pkAt_of {w : World} {x : Addr} {l : List Pk} (h : ∀ i (hi : i < l.length), w.cell? (x.add (i * 2)) = some (.int .i64 (l[i]).1) ∧ w.cell? (x.add (i * 2 + 1)) = some (.string ⟨(l[i]).2.toArray⟩)) : PkAt w (some x) l := by
  obtain ⟨b, off, spot⟩ := x
  by_cases h0 : l.length = 0
  · exact .inl (List.length_eq_zero_iff.mp h0)
  · have c0 := (h 0 (by omega)).1
    have hs : spot = none := by simpa [Addr.add] using World.cell?_spot c0
    subst hs
    have hb : b < w.heap.size := by
      have := World.block_lt_of_cell? w _ c0
      simpa [Addr.add] using this
    refine .inr ⟨b, off, rfl, hb, fun i hi => ?_⟩
    obtain ⟨ci, di⟩ := h i hi
    have e1 : (⟨b, off, none⟩ : Addr).add (i * 2) = ⟨b, off + i * 2, none⟩ := by
      by_cases e : i = 0
      · subst e; simp [Addr.add]
      · have e' : i * 2 ≠ 0 := by omega
        simp [Addr.add, e']
    have e2 : (⟨b, off, none⟩ : Addr).add (i * 2 + 1) = ⟨b, off + i * 2 + 1, none⟩ := by simp [Addr.add]; omega
    rw [e1] at ci
    rw [e2] at di
    exact ⟨ci, di⟩

end Go.Proofs.Yteffpcgmoegomaa.P7
