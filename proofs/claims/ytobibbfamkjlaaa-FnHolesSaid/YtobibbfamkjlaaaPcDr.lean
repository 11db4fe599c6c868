/- The drawings of a piece and of pieces. -/
import Derived.Test.YtobibbfamkjlaaaPcAdS
import Derived.Lib.Strings
namespace Go.Proofs.Ytobibbfamkjlaaa
open Go.RowKit

theorem grown_some {a b : World} {r : Nat} (h : a.grownBy b none) : a.grownBy b (some r) := ⟨h.os, h.tape, h.output, h.size, fun k hk _ => h.block k hk (by simp)⟩
theorem grown_frozen {a b : World} {row : Option Nat} (hg : a.grownBy b row) {p : Addr} {v : Value} (h : a.cell? p = some v) (hne : some p.block ≠ row) {x : Bool} (hf : a.frozen? p = x) : b.frozen? p = x := by
  rw [World.frozen?_of_block (hg.block p.block (World.block_lt_of_cell? a p h) hne)]
  exact hf
theorem grown_other {a b c : World} {B r : Nat} (h : a.grownBy b (some B)) (k : b.grownBy c (some r)) (hr : a.heap.size ≤ r) : a.grownBy c (some B) :=
  ⟨k.os.trans h.os, k.tape.trans h.tape, k.output.trans h.output, Nat.le_trans h.size k.size, fun i hi hne => (k.block i (Nat.lt_of_lt_of_le hi h.size) (by simp; omega)).trans (h.block i hi hne)⟩
theorem RdOk.other2 {w w' : World} {r k : Nat} (h : RdOk w r) (hg : w.grownBy w' (some k)) (hne : some r ≠ some k) (hrk : r < k) : RdOk w' r := h.kept hg hne (fun i e => by cases e; exact hrk)
structure Two (w : World) (E : Nat) (x y : Value) : Prop where
  a : w.cell? ⟨E, 0, none⟩ = some x
  b : w.cell? ⟨E, 1, none⟩ = some y
  f : w.frozen? ⟨E, 0, none⟩ = false
  g : w.frozen? ⟨E, 1, none⟩ = false
theorem two_new (w : World) (x y : Value) (T : TypeId) : Two (w.alloc (.cells #[x, y] T)) w.heap.size x y := ⟨by go_simp, by go_simp, by go_simp, by go_simp⟩
theorem Two.kept {w w' : World} {E : Nat} {x y : Value} {r : Option Nat} (h : Two w E x y) (hg : w.grownBy w' r) (hne : some E ≠ r) : Two w' E x y :=
  ⟨hg.cell h.a hne, hg.cell h.b hne, grown_frozen hg h.a hne h.f, grown_frozen hg h.b hne h.g⟩
theorem ext_l (l : List UInt8) (i j : Nat) : ({ data := l.toArray } : ByteArray).extract i j = ⟨((l.take j).drop i).toArray⟩ := ba_of (by rw [Lib.extract_data]; simp [List.drop_take])

def PcDPost (w : World) (r : Nat) (e : Ending) (w' : World) : Prop :=
  ∃ (p : Int) (m : List UInt8), e = .returned (.agg #[.int .i64 p, .string ⟨m.toArray⟩]) ∧ Near (-1) 31 p ∧ 1 ≤ m.length ∧ m.length ≤ 8 ∧ w.grownBy w' (some r) ∧ RdOk w' r

set_option maxRecDepth 100000 in
set_option maxHeartbeats 4000000 in
theorem piece_draw (r : Nat) (w : World) (h : RdOk w r) : Calls Try.prog 42 #[.pointer (some ⟨r, 0, none⟩)] w (PcDPost w r) := by
  have hlt := h.lt
  have H := Lib.hid h
  have HE := Lib.hid (two_new w (.int .i64 0) (.string ⟨#[]⟩) 38)
  clear h
  go_enter Try.func42, Try.ntmps42
  go_wp2_with fail
  refine (below_any _ _ _ (H.out.alloc _) (by omega)).mono ?_
  rintro e w1 ⟨v, v0, v1, rfl, hg, hr⟩
  have H1 := Lib.hid (And.intro (grownBy_trans (grown_some (World.grownBy_alloc w (.cells #[.int .i64 0, .string ⟨#[]⟩] 38) none)) hg) (And.intro hr (HE.out.kept hg (by simp; omega))))
  have HV := Lib.hid (show 0 ≤ v ∧ v ≤ 19 from ⟨v0, by simpa using v1⟩)
  clear hg hr v0 v1
  go_wp2_with fail
  refine (below_any _ _ _ H1.out.2.1 (by omega)).mono ?_
  rintro e w2 ⟨i, v0, v1, rfl, hg, hr⟩
  obtain ⟨i, rfl⟩ := Int.eq_ofNat_of_zero_le v0
  have hi3 : i ≤ 3 := by have : (i : Int) ≤ 3 := (by simpa using v1); omega
  have H2 := Lib.hid (And.intro (grownBy_trans H1.out.1 hg) (And.intro hr (H1.out.2.2.kept hg (by simp; omega))))
  clear hg hr v0 v1
  go_wp2_with fail
  refine (below_any _ _ _ H2.out.2.1 (by omega)).mono ?_
  rintro e w3 ⟨j, v0, v1, rfl, hg, hr⟩
  obtain ⟨j, rfl⟩ := Int.eq_ofNat_of_zero_le v0
  have hj4 : j ≤ 4 := by have : (j : Int) ≤ 4 := (by simpa using v1); omega
  have H3 := Lib.hid (And.intro (grownBy_trans H2.out.1 hg) (And.intro hr (H2.out.2.2.kept hg (by simp; omega))))
  clear hg hr v0 v1
  have hw : IntKind.i64.wrap (4 + (j : Int)) = 4 + j := IntWalk.i64_in _ (by omega)
  have hb1 : (i : Int) ≤ 4 + j := by omega
  have hb2 : 4 + (j : Int) ≤ 8 := by omega
  have hb3 : (0 : Int) ≤ 4 + j := by omega
  have hb4 : (4 + (j : Int)).toNat = 4 + j := by omega
  have hx := ext_l [97, 98, 99, 100, 101, 102, 103, 104] i (4 + j)
  obtain ⟨m, hm, hm1, hm2⟩ : ∃ m : List UInt8, (([97, 98, 99, 100, 101, 102, 103, 104] : List UInt8).take (4 + j)).drop i = m ∧ 1 ≤ m.length ∧ m.length ≤ 8 := ⟨_, rfl, by simp; omega, by simp; omega⟩
  rw [hm] at hx
  have HX := Lib.hid hx
  have HT := Lib.hid (two_new w3 (.int .i64 v) (.string ⟨m.toArray⟩) 38)
  have hE3 : w.heap.size < w3.heap.size := World.block_lt_of_cell? w3 _ H3.out.2.2.a
  clear hx hm
  go_wp2_with fail
  simp only [HX.out]
  refine (once_any _ _ _ (H3.out.2.1.alloc _) (by omega) (by omega)).mono ?_
  rintro e w4 ⟨bb, rfl, hg, hr⟩
  have hlt3 := H3.out.2.1.lt
  have H4 := Lib.hid (And.intro (grownBy_trans (grownBy_trans H3.out.1 (grown_some (World.grownBy_alloc w3 (.cells #[.int .i64 v, .string ⟨m.toArray⟩] 38) none))) hg) (And.intro hr (And.intro ((H3.out.2.2.kept (World.grownBy_alloc w3 (.cells #[.int .i64 v, .string ⟨m.toArray⟩] 38) none) (by simp)).kept hg (by simp; omega)) (HT.out.kept hg (by simp; omega)))))
  clear hg hr
  generalize hEE : w3.heap.size = E at *
  clear hEE HT
  cases bb
  · obtain ⟨a0, a1, a2, a3⟩ := H4.out.2.2.1
    obtain ⟨b0, b1, b2, b3⟩ := H4.out.2.2.2
    have hW : w4.grownBy ((w4.setCell ⟨w.heap.size, 0, none⟩ (.int .i64 v)).setCell ⟨w.heap.size, 1, none⟩ (.string ⟨m.toArray⟩)) (some w.heap.size) := grownBy_trans (grownBy_set _ _ _ _) (grownBy_set _ _ _ _)
    have HF := Lib.hid (And.intro (grown_other H4.out.1 hW (Nat.le_refl _)) (H4.out.2.1.other2 hW (by simp; omega) hlt))
    clear hW
    go_wp2_with fail
    exact bodyPost_ret (v := .agg #[.int .i64 v, .string ⟨m.toArray⟩]) (by simp [results, Try.results42, go_sem, a0, a1]) rfl ⟨v, m, rfl, near_mk (by have := HV.out.1; omega) (by have := HV.out.2; omega) (by omega) (by omega), hm1, hm2, HF.out.1, HF.out.2⟩
  · go_wp2_with fail
    refine (off_any _ _ _ _ H4.out.2.1 (by omega) (by omega) (by omega)).mono ?_
    rintro e w5 ⟨p, hp, rfl, hg, hr⟩
    have H5 := Lib.hid (And.intro (grownBy_trans H4.out.1 hg) (And.intro hr (And.intro (H4.out.2.2.1.kept hg (by simp; omega)) (H4.out.2.2.2.kept hg (by simp; omega)))))
    have HPN := Lib.hid hp
    clear hg hr hp
    obtain ⟨a0, a1, a2, a3⟩ := H5.out.2.2.1
    obtain ⟨b0, b1, b2, b3⟩ := H5.out.2.2.2
    have hS : w5.grownBy (w5.setCell ⟨E, 0, none⟩ (.int .i64 p)) (some E) := grownBy_set _ _ _ _
    have hW : (w5.setCell ⟨E, 0, none⟩ (.int .i64 p)).grownBy (((w5.setCell ⟨E, 0, none⟩ (.int .i64 p)).setCell ⟨w.heap.size, 0, none⟩ (.int .i64 p)).setCell ⟨w.heap.size, 1, none⟩ (.string ⟨m.toArray⟩)) (some w.heap.size) := grownBy_trans (grownBy_set _ _ _ _) (grownBy_set _ _ _ _)
    have HF := Lib.hid (And.intro (grown_other (grown_other H5.out.1 hS (by omega)) hW (Nat.le_refl _)) ((H5.out.2.1.other2 hS (by simp; omega) (by omega)).other2 hW (by simp; omega) hlt))
    clear hS hW
    go_wp2_with fail
    exact bodyPost_ret (v := .agg #[.int .i64 p, .string ⟨m.toArray⟩]) (by simp [results, Try.results42, go_sem, a0, a1]) rfl ⟨p, m, rfl, HPN.out.mono (by omega) (by omega), hm1, hm2, HF.out.1, HF.out.2⟩

def NearPk (x : Pk) : Prop := Near (-1) 31 x.1 ∧ 1 ≤ x.2.length ∧ x.2.length ≤ 8
/-- Pieces that are drawn: right, few and small. -/
def Small (l : List Pk) (n : Nat) : Prop := l.length ≤ n ∧ PcsP l ∧ ∀ x ∈ l, x.1 + (x.2.length : Int) ≤ 40
def PcsDPost (w : World) (r : Nat) (e : Ending) (w' : World) : Prop :=
  ∃ (l : List Pk) (v : Value), Small l 4 ∧ e = .returned v ∧ w.grownBy w' (some r) ∧ RdOk w' r ∧ w'.ownsRow w.heap.size 38 2 v l.length (pksV l)
def PcsDRel (w : World) (r : Nat) (v i : Value) (wr : World) : Prop :=
  ∃ (j : Nat) (l : List Pk), j + l.length ≤ 4 ∧ i = .int .i64 (j : Nat) ∧ PcsP l ∧ (∀ x ∈ l, x.1 + (x.2.length : Int) ≤ 40) ∧ w.grownBy wr (some r) ∧ RdOk wr r ∧ wr.ownsRow w.heap.size 38 2 v l.length (pksV l)
theorem pcsP_nil : PcsP [] := ⟨by simp, by simp, fun i h => absurd h (by simp)⟩
theorem merge_high {B : Int} : ∀ (l : List Pk) (x : Pk), x.1 + (x.2.length : Int) ≤ B → (∀ p ∈ l, p.1 + (p.2.length : Int) ≤ B) → Good l → x.2 ≠ [] → (∀ p ∈ l, x.1 ≤ p.1 + (p.2.length : Int)) → ∀ q ∈ mergeR l x, q.1 + (q.2.length : Int) ≤ B
  | [], x, hx, _, _, _, _, q, hq => by simp [mergeR] at hq; subst hq; exact hx
  | p :: l, x, hx, hl, hg, hn, hh, q, hq => by
    obtain ⟨gl, bl, np⟩ := good_cons hg
    rw [mergeR] at hq
    split at hq
    · rename_i hle
      have h1 := hh p (by simp)
      have hlen := over_len hle h1
      have lp := len_pos np
      have hp := hl p (by simp)
      have e1 : (overP p x).1 = min p.1 x.1 := rfl
      refine merge_high l (overP p x) (by rw [hlen, e1]; omega) (fun r hr => hl r (by simp [hr])) gl (fun e => by rw [e] at hlen; simp at hlen; omega) (fun r hr => by have := bl r hr; unfold gap at this; rw [e1]; omega) q hq
    · rcases List.mem_cons.mp hq with rfl | hq
      · exact hx
      · exact hl q hq
theorem with_high {B : Int} : ∀ (l : List Pk) (x : Pk), x.1 + (x.2.length : Int) ≤ B → (∀ p ∈ l, p.1 + (p.2.length : Int) ≤ B) → Good l → x.2 ≠ [] → ∀ q ∈ withL l x, q.1 + (q.2.length : Int) ≤ B
  | [], x, hx, _, _, _, q, hq => by simp [withL] at hq; subst hq; exact hx
  | p :: l, x, hx, hl, hg, hn, q, hq => by
    obtain ⟨gl, bl, np⟩ := good_cons hg
    rw [withL] at hq
    split at hq
    · rcases List.mem_cons.mp hq with rfl | hq
      · exact hl q (by simp)
      · exact with_high l x hx (fun r hr => hl r (by simp [hr])) gl hn q hq
    · rename_i hlt
      exact merge_high (p :: l) x hx hl hg hn (fun r hr => by
        rcases List.mem_cons.mp hr with rfl | hr
        · omega
        · have := bl r hr; unfold gap at this; omega) q hq
theorem add_small {l : List Pk} {x : Pk} (h : addOk l x = true) (hn : NearPk x) (hl : ∀ y ∈ l, y.1 + (y.2.length : Int) ≤ 40) : PcsP (withL l x) ∧ ∀ y ∈ withL l x, y.1 + (y.2.length : Int) ≤ 40 := by
  simp only [addOk, Bool.and_eq_true] at h
  obtain ⟨⟨h1, h2⟩, h3⟩ := h
  refine ⟨pcs_of h3, with_high l x ?_ hl (pcs_of h1).good ?_⟩
  · obtain ⟨p0, p1, p2, p3⟩ := pcIn_of h2
    obtain ⟨⟨_, hh⟩, hm1, hm2⟩ := hn
    rcases hh with hh | hh | hh <;> omega
  · intro e
    have := hn.2.1
    rw [e] at this
    simp at this

set_option maxRecDepth 100000 in
set_option maxHeartbeats 4000000 in
theorem pieces_draw (r : Nat) (w : World) (h : RdOk w r) : Calls Try.prog 27 #[.pointer (some ⟨r, 0, none⟩)] w (PcsDPost w r) := by
  have hlt := h.lt
  have H := Lib.hid h
  clear h
  go_enter Try.func27, Try.ntmps27
  go_wp2_with fail
  refine (below_any _ _ _ (H.out.alloc _) (by omega)).mono ?_
  rintro e w1 ⟨v, v0, v1, rfl, hg, hr⟩
  obtain ⟨m, rfl⟩ := Int.eq_ofNat_of_zero_le v0
  have hm1 : m ≤ 4 := by have : (m : Int) ≤ 4 := (by simpa using v1); omega
  have HG := Lib.hid (And.intro hg hr)
  clear hg hr v0 v1
  go_wp2_with fail
  go_loopw [3, 4] (fun v i wr => PcsDRel w r v i wr) (fun _ i _ => (intOf i).toNat)
  case atStart =>
    refine ⟨m, [], by simpa using hm1, rfl, pcsP_nil, by simp, grownBy_trans (grown_some (World.grownBy_alloc _ _ none)) HG.out.1, HG.out.2, ?_⟩
    exact (World.ownsRow_lit w #[] 0 (Nat.le_refl _) (Nat.zero_le _) rfl).kept HG.out.1 (.inr (by simp [Value.ownBlock]; omega))
  case round =>
    obtain ⟨j, l, hj, rfl, hP, hS, hg, hr, hown⟩ := hrel
    have HL := Lib.hid (And.intro hP hS)
    have HS := Lib.hid (And.intro hg (And.intro hr hown))
    have hlr : r < wr.heap.size := hr.lt
    clear hown hg hr hP hS
    by_cases h0 : j = 0
    · subst h0
      go_wp2_with fail
      go_ret
      exact ⟨l, u3, ⟨by omega, HL.out.1, HL.out.2⟩, rfl, HS.out.1, HS.out.2.1, HS.out.2.2⟩
    · obtain ⟨q, rfl⟩ : ∃ q, j = q + 1 := ⟨j - 1, by omega⟩
      clear h0
      have HN := Lib.hid (show u3.ownBlock = none ∨ u3.ownBlock ≠ some r by
        by_cases hn : u3.ownBlock = none
        · exact .inl hn
        · exact .inr fun e => by have := HS.out.2.2.lt r e; omega)
      obtain ⟨a3, c3, rfl⟩ := own_slice HS.out.2.2
      go_wp2_with fail
      refine (piece_draw _ _ HS.out.2.1).mono ?_
      rintro e w2 ⟨p, mm, rfl, hp, hm1, hm2, hg, hr⟩
      have H2 := Lib.hid (And.intro (grownBy_trans HS.out.1 hg) (And.intro hr (And.intro (HS.out.2.2.kept hg HN.out) (show NearPk (p, mm) from ⟨hp, hm1, hm2⟩))))
      clear hg hr hp hm1 hm2
      go_wp2_with fail
      refine (add_spec _ _ _ _ _ _ (pk_own H2.out.2.2.1) (by omega)).mono ?_
      rintro e w3 ⟨v3, rfl, hg, hown⟩
      have H3 := Lib.hid (And.intro (grownBy_trans H2.out.1 (grown_some hg)) (And.intro (H2.out.2.1.kept hg (by simp) (by simp)) (And.intro (own_kept H2.out.2.2.1 hg) (own_base hown H2.out.1.size))))
      clear hg hown
      cases hok : addOk l (p, mm)
      · go_wp2_with fail
        go_roundw
        case rel => exact ⟨q, l, by omega, by go_num, HL.out.1, HL.out.2, H3.out.1, H3.out.2.1, H3.out.2.2.1⟩
        case measure => first | (simp [intOf]; done) | (simp [intOf]; omega)
      · have hR : addR l (p, mm) = withL l (p, mm) := by simp [addR, hok]
        have HA := Lib.hid (add_small hok H2.out.2.2.2 HL.out.2)
        have hwl := with_len l (p, mm)
        have HW := Lib.hid H3.out.2.2.2
        rw [hR] at HW
        clear hR
        go_wp2_with fail
        go_roundw
        case rel => exact ⟨q, withL l (p, mm), by omega, by go_num, HA.out.1, HA.out.2, H3.out.1, H3.out.2.1, HW.out⟩
        case measure => first | (simp [intOf]; done) | (simp [intOf]; omega)

end Go.Proofs.Ytobibbfamkjlaaa
