/- Drawings of options; whether two rows of them are the same. -/
import Derived.Test.YtefpnbmjcailgaaOpI
namespace Go.Proofs.Ytefpnbmjcailgaa
open Go.RowKit

def odP (x : Pk) : Prop := (Lit.int .i64 x.1).wf = true ∧ x.2.length ≤ 6
/-- Options that are being drawn: where they stand. -/
structure Od (w : World) (r : Nat) (l : List Pk) (v : Value) (W : World) : Prop where
  g : w.grownBy W (some r)
  rd : RdOk W r
  ow : W.ownsRow w.heap.size 43 2 v l.length (pksV l)
  nn : v ≠ .slice none 0 0
theorem Od.step {w : World} {r : Nat} {l : List Pk} {v : Value} {W W2 : World} (h : Od w r l v W) (hr : r < w.heap.size) (hg : W.grownBy W2 (some r)) (hd : RdOk W2 r) : Od w r l v W2 :=
  ⟨grownBy_trans h.g hg, hd, World.ownsRow.kept h.ow hg (row_ne2 h.ow hr), h.nn⟩
theorem Od.al {w : World} {r : Nat} {l : List Pk} {v : Value} {W : World} (h : Od w r l v W) (o : Obj) : Od w r l v (W.alloc o) := ⟨oy_al h.g o, h.rd.alloc o, h.ow.alloc o, h.nn⟩
theorem Od.set {w : World} {r : Nat} {l : List Pk} {v : Value} {W : World} (h : Od w r l v W) (hr : r < w.heap.size) {C : Nat} (hC : w.heap.size ≤ C) (hne : v.ownBlock = none ∨ v.ownBlock ≠ some C) (i : Nat) (u : Value) : Od w r l v (W.setCell ⟨C, i, none⟩ u) :=
  ⟨oy_new h.g hC, h.rd.kept (grownBy_set W C i u) (by simp; omega) (fun k e => by cases e; omega), World.ownsRow.kept h.ow (grownBy_set W C i u) hne, h.nn⟩
theorem od_app {w : World} {r : Nat} {l : List Pk} {v v' : Value} {W wz : World} {n : Nat} {xs : List Value} (h : Od w r l v W) (hr : r < w.heap.size) (ho : wz.ownsRow w.heap.size 43 2 v' n xs) (hg : W.grownBy wz v.ownBlock) (hnn : v' = .slice none 0 0 → v = .slice none 0 0) : w.grownBy wz (some r) ∧ RdOk wz r ∧ wz.ownsRow w.heap.size 43 2 v' n xs ∧ v' ≠ .slice none 0 0 :=
  ⟨row_grow h.g h.ow hg, h.rd.kept hg (row_ne h.ow hr) (fun k e => by have := (h.ow.lt k e).1; omega), ho, fun e => h.nn (hnn e)⟩
theorem own_below {w : World} {B s n C : Nat} {e : TypeId} {v : Value} {xs : List Value} (h : w.ownsRow B e s v n xs) (hC : w.heap.size ≤ C) : v.ownBlock = none ∨ v.ownBlock ≠ some C := by
  cases hv : v.ownBlock with
  | none => exact .inl rfl
  | some g =>
    refine .inr fun e => ?_
    have h2 := (h.lt g hv).2
    simp at e
    omega
def OdRel (w : World) (r : Nat) (l i : Value) (wr : World) : Prop :=
  ∃ (q : Nat) (acc : List Pk), i = .int .i64 (q : Int) ∧ acc.length + q ≤ 3 ∧ (∀ x ∈ acc, odP x) ∧ Od w r acc l wr
def OdPost (w : World) (r : Nat) (e : Ending) (w' : World) : Prop :=
  ∃ (l : List Pk) (a : Option Addr) (c : Nat), l.length ≤ 3 ∧ (∀ x ∈ l, odP x) ∧ e = .returned (.slice a l.length c) ∧ Od w r l (.slice a l.length c) w'
theorem RdOk.drew {w : World} {r : Nat} (h : RdOk w r) : RdOk w.drew r := h.kept (grownBy_drew (r := none)) (by simp) (by simp)
theorem od_snoc {l : List Pk} {x : Pk} (h : ∀ y ∈ l, odP y) (hx : odP x) : ∀ y ∈ l ++ [x], odP y := by
  intro y hy
  rcases List.mem_append.1 hy with hy | hy
  · exact h y hy
  · obtain rfl := List.mem_singleton.1 hy
    exact hx
theorem own_some {w : World} {base : Nat} {e : TypeId} {v : Value} {n s : Nat} {xs : List Value} (h : w.ownsRow base e s v n xs) (hne : v ≠ .slice none 0 0) : ∃ g c, v = .slice (some ⟨g, 0, none⟩) n c := by
  rcases h.2 with ⟨h1, _⟩ | ⟨g, cap, cur, hv, _⟩
  · exact absurd h1 hne
  · exact ⟨g, cap, hv⟩
theorem od_new (w : World) (r : Nat) (h : RdOk w r) : Od w r [] (.slice (some ⟨w.heap.size, 0, none⟩) 0 0) (w.alloc (.cells #[] 43)) :=
  ⟨World.grownBy_alloc _ _ _, h.alloc _, row_zero w, by simp⟩

set_option maxRecDepth 100000 in
set_option maxHeartbeats 2000000 in
theorem opts_draw (r : Nat) (w : World) (h : RdOk w r) : Calls Try.prog 40 #[.pointer (some ⟨r, 0, none⟩)] w (OdPost w r) := by
  obtain ⟨i0, hi, hz0, hz1, hz2⟩ := info_of infoPk
  have hlr := h.lt
  have H := Lib.hid (od_new w r h)
  clear h
  go_enter Try.func40, Try.ntmps40
  go_wp2_with fail
  refine (below_any _ _ _ H.out.rd (by omega)).mono ?_
  rintro e w1 ⟨v, v0, v1, rfl, hg, hr⟩
  rw [if_neg (by omega)] at v1
  obtain ⟨q, rfl⟩ := Int.eq_ofNat_of_zero_le v0
  have hq3 : q ≤ 3 := by omega
  have H1 := Lib.hid (H.out.step hlr hg hr)
  clear hg hr v0 v1
  go_wp2_with fail
  go_loopw [3, 4] (fun l i wr => OdRel w r l i wr) (fun _ i _ => (intOf i).toNat)
  case atStart => exact ⟨q, [], rfl, by simpa using hq3, by simp, H1.out⟩
  case round =>
    clear hq3 H1
    obtain ⟨q, acc, rfl, hq, hall, hod⟩ := hrel
    obtain ⟨la, lc, rfl⟩ := own_slice hod.ow
    have HS := Lib.hid (And.intro hod hall)
    clear hod hall
    by_cases h0 : q = 0
    · subst h0
      go_wp2_with fail
      go_ret
      exact ⟨acc, la, lc, by omega, HS.out.2, rfl, HS.out.1⟩
    · obtain ⟨q, rfl⟩ : ∃ p, q = p + 1 := ⟨q - 1, by omega⟩
      have hqp : (0 : Int) < ((q + 1 : Nat) : Int) := by omega
      have hqw : IntKind.i64.wrap (((q + 1 : Nat) : Int) - 1) = (q : Int) := by rw [IntWalk.i64_in _ (by omega)]; omega
      clear h0
      go_wp2_with fail
      refine (below_any _ _ _ HS.out.1.rd (by omega)).mono ?_
      rintro e w2 ⟨v, v0, v1, rfl, hg, hr⟩
      rw [if_neg (by omega)] at v1
      have H2 := Lib.hid (HS.out.1.step hlr hg hr)
      clear hg hr
      have hvw : IntKind.i64.wrap (2 + v) = 2 + v := IntWalk.i64_in _ (by omega)
      go_wp2_with fail
      refine (bytes_any r 6 _ H2.out.rd (by omega)).mono ?_
      rintro e w3 ⟨m, hm6, rfl, hg, hr⟩
      have H3 := Lib.hid ((H2.out.step hlr hg hr).al (.cells #[.int .i64 (2 + v), .string ⟨m.toArray⟩] 43))
      have HB := Lib.hid (And.intro (Bx.new w3 43 #[.int .i64 (2 + v), .string ⟨m.toArray⟩]) (And.intro (H2.out.step hlr hg hr).g.size (own_below (C := w3.heap.size) (H2.out.step hlr hg hr).ow (Nat.le_refl _))))
      have hrw : r < w3.heap.size := hr.lt
      clear hg hr
      go_wp2_with fail
      generalize hwa : w3.alloc (.cells #[.int .i64 (2 + v), .string ⟨m.toArray⟩] 43) = wa at *
      clear hwa
      obtain ⟨O, hO⟩ : ∃ O, w3.heap.size = O := ⟨_, rfl⟩
      rw [hO] at HB hrw ⊢
      clear hO
      refine (once_any _ _ _ H3.out.rd (by omega) (by omega)).mono ?_
      rintro e w4 ⟨b, rfl, hg, hr⟩
      have H4 := Lib.hid (H3.out.step hlr hg hr)
      have hbx := HB.out.1.kept hg (by simp; omega)
      clear hg hr
      cases b
      · have o0 := hbx.c 0 rfl
        have o1 := hbx.c 1 rfl
        clear hbx
        go_wp2_with (at_builtin; refine wpList_append_own _ rfl _ _ 25 rfl w.heap.size 43 i0 _ 2 24 Try.underlying25 hi hz0 hz1 hz2 rfl (by decide) _ _ _ rfl (H4.out.ow.alloc _) ⟨w4.heap.size, 0, none⟩ 1 1 [.int .i64 (2 + v), .string ⟨m.toArray⟩] rfl rfl ?c1 ?c2 ?c3 ?c4 ?c5 ?_)
        try (case c1 => exact pair_new _ _ _ _ _ (by first | rfl | simp))
        case c2 => simp [Value.oneCell']
        case c3 => unfold maxLen; omega
        case c4 => omega
        case c5 => have := H4.out.g.size; simp; omega
        intro v' wz hown1 hg1 hiff
        have HW := Lib.hid (od_app (H4.out.al _) hlr hown1 hg1 (fun e => by first | exact (hiff.1 e).1 | exact absurd e (by simpa using hiff) | exact (hiff e).elim))
        clear hown1 hg1 hiff
        go_wp2_with fail
        go_roundw
        case rel => exact ⟨q, acc ++ [(2 + v, m)], by first | rfl | go_num | (congr 1), by rw [List.length_append, List.length_singleton]; omega, od_snoc HS.out.2 ⟨wf_small (by omega) (by omega), hm6⟩, HW.out.1, HW.out.2.1, by rw [pksV_snoc, List.length_append, List.length_singleton]; exact HW.out.2.2.1, HW.out.2.2.2⟩
        case measure => simp [intOf]
      · have HBX := Lib.hid hbx
        clear hbx
        go_wp2_with fail
        refine (off_any _ _ _ _ H4.out.rd (by omega) (by omega) (by omega)).mono ?_
        rintro e w5 ⟨u, hu, rfl, hg, hr⟩
        have H5 := Lib.hid ((H4.out.step hlr hg hr).set hlr HB.out.2.1 HB.out.2.2 0 (.int .i64 u))
        have hbx := HBX.out.kept hg (by simp; omega)
        have ob0 := hbx.c 0 rfl
        have ob1 := hbx.c 1 rfl
        have obf := hbx.f 0
        have hb2 := hbx.s 0 (.int .i64 u)
        have o0 := hb2.c 0 rfl
        have o1 := hb2.c 1 rfl
        have HU := Lib.hid hu.1
        clear hg hr hbx hb2 hu
        go_wp2_with (at_builtin; refine wpList_append_own _ rfl _ _ 25 rfl w.heap.size 43 i0 _ 2 24 Try.underlying25 hi hz0 hz1 hz2 rfl (by decide) _ _ _ rfl (H5.out.ow.alloc _) ⟨w5.heap.size, 0, none⟩ 1 1 [.int .i64 u, .string ⟨m.toArray⟩] rfl rfl ?d1 ?d2 ?d3 ?d4 ?d5 ?_)
        try (case d1 => exact pair_new _ _ _ _ _ (by first | rfl | simp))
        case d2 => simp [Value.oneCell']
        case d3 => unfold maxLen; omega
        case d4 => omega
        case d5 => have := H5.out.g.size; simp at this ⊢; omega
        intro v' wz hown1 hg1 hiff
        have HW := Lib.hid (od_app (H5.out.al _) hlr hown1 hg1 (fun e => by first | exact (hiff.1 e).1 | exact absurd e (by simpa using hiff) | exact (hiff e).elim))
        clear hown1 hg1 hiff
        go_wp2_with fail
        go_roundw
        case rel => exact ⟨q, acc ++ [(u, m)], by first | rfl | go_num | (congr 1), by rw [List.length_append, List.length_singleton]; omega, od_snoc HS.out.2 ⟨HU.out, hm6⟩, HW.out.1, HW.out.2.1, by rw [pksV_snoc, List.length_append, List.length_singleton]; exact HW.out.2.2.1, HW.out.2.2.2⟩
        case measure => simp [intOf]

def DoPost (w : World) (e : Ending) (w' : World) : Prop :=
  ∃ (l : List Pk) (a : Option Addr) (c : Nat), l.length ≤ 3 ∧ (∀ x ∈ l, odP x) ∧ e = .returned (.slice a l.length c) ∧ w.grownBy w' none ∧ w'.ownsRow w.heap.size 43 2 (.slice a l.length c) l.length (pksV l)

set_option maxRecDepth 100000 in
theorem draw_ok (a : Option Addr) (n c : Nat) (w : World) (h : CodeIn w a n) : Calls Try.prog 22 #[.slice a n c] w (DoPost w) := by
  have H := Lib.hid h
  clear h
  go_enter Try.func22, Try.ntmps22
  go_wp2_with fail
  refine (open_any _ _ _ _ H.out).mono ?_
  rintro e w1 ⟨rfl, hg, hr⟩
  have HG := Lib.hid (And.intro hg hr)
  clear hg hr
  go_wp2_with fail
  refine (opts_draw _ _ HG.out.2).mono ?_
  rintro e w2 ⟨l, la, lc, hl, hall, rfl, hod⟩
  have HO := Lib.hid (And.intro hod hall)
  clear hod hall
  go_wp2_with fail
  go_ret
  exact ⟨l, la, lc, hl, HO.out.2, rfl, grownBy_new HG.out.1 HO.out.1.g (Nat.le_refl _), own_base HO.out.1.ow HG.out.1.size⟩

set_option maxRecDepth 100000 in
theorem draw_bytes (a : Option Addr) (n c : Nat) (w : World) (h : CodeIn w a n) : Calls Try.prog 17 #[.slice a n c] w (DoPost w) := by
  have H := Lib.hid h
  clear h
  go_enter Try.func17, Try.ntmps17
  go_wp2_with fail
  refine (draw_ok _ _ _ _ H.out).mono ?_
  rintro e w2 ⟨l, la, lc, hl, hall, rfl, hg, ho⟩
  have HO := Lib.hid (And.intro hall (And.intro hg ho))
  clear hall hg ho
  go_wp2_with fail
  go_ret
  exact ⟨l, la, lc, hl, HO.out.1, rfl, HO.out.2.1, HO.out.2.2⟩

def DoPost2 (w : World) (e : Ending) (w' : World) : Prop :=
  ∃ (l : List Pk) (g : Nat) (c : Nat), l.length ≤ 3 ∧ (∀ x ∈ l, odP x) ∧ e = .returned (.slice (some ⟨g, 0, none⟩) l.length c) ∧ w.grownBy w' none ∧ w'.ownsRow w.heap.size 43 2 (.slice (some ⟨g, 0, none⟩) l.length c) l.length (pksV l)

set_option maxRecDepth 100000 in
theorem draw_ok2 (a : Option Addr) (n c : Nat) (w : World) (h : CodeIn w a n) : Calls Try.prog 22 #[.slice a n c] w (DoPost2 w) := by
  have H := Lib.hid h
  clear h
  go_enter Try.func22, Try.ntmps22
  go_wp2_with fail
  refine (open_any _ _ _ _ H.out).mono ?_
  rintro e w1 ⟨rfl, hg, hr⟩
  have HG := Lib.hid (And.intro hg hr)
  clear hg hr
  go_wp2_with fail
  refine (opts_draw _ _ HG.out.2).mono ?_
  rintro e w2 ⟨l, la, lc, hl, hall, rfl, hod⟩
  obtain ⟨g, c2, hv⟩ := own_some hod.ow hod.nn
  simp at hv
  obtain ⟨rfl, rfl⟩ := hv
  have HO := Lib.hid (And.intro hod hall)
  clear hod hall
  go_wp2_with fail
  go_ret
  exact ⟨l, g, _, hl, HO.out.2, rfl, grownBy_new HG.out.1 HO.out.1.g (Nat.le_refl _), own_base HO.out.1.ow HG.out.1.size⟩

set_option maxRecDepth 100000 in
theorem draw_bytes2 (a : Option Addr) (n c : Nat) (w : World) (h : CodeIn w a n) : Calls Try.prog 17 #[.slice a n c] w (DoPost2 w) := by
  have H := Lib.hid h
  clear h
  go_enter Try.func17, Try.ntmps17
  go_wp2_with fail
  refine (draw_ok2 _ _ _ _ H.out).mono ?_
  rintro e w2 ⟨l, g, lc, hl, hall, rfl, hg, ho⟩
  have HO := Lib.hid (And.intro hall (And.intro hg ho))
  clear hall hg ho
  go_wp2_with fail
  go_ret
  exact ⟨l, g, lc, hl, HO.out.1, rfl, HO.out.2.1, HO.out.2.2⟩

def DfPost (w : World) (e : Ending) (w' : World) : Prop :=
  ∃ (l : List Pk) (a : Option Addr) (c : Nat) (k : Int), l.length ≤ 3 ∧ (∀ x ∈ l, odP x) ∧ 2 ≤ k ∧ k ≤ 6 ∧ e = .returned (.tuple #[.slice a l.length c, .int .i64 k]) ∧ w.grownBy w' none ∧ PkAt w' a l

set_option maxRecDepth 100000 in
theorem draw_of (a : Option Addr) (n c : Nat) (w : World) (h : CodeIn w a n) : Calls Try.prog 19 #[.slice a n c] w (DfPost w) := by
  have H := Lib.hid h
  clear h
  go_enter Try.func19, Try.ntmps19
  go_wp2_with fail
  refine (open_any _ _ _ _ H.out).mono ?_
  rintro e w1 ⟨rfl, hg, hr⟩
  have HG := Lib.hid (And.intro hg hr)
  have hlr := hr.lt
  clear hg hr
  go_wp2_with fail
  refine (opts_draw _ _ HG.out.2).mono ?_
  rintro e w2 ⟨l, la, lc, hl, hall, rfl, hod⟩
  have HO := Lib.hid (And.intro hod hall)
  clear hod hall
  go_wp2_with fail
  refine (below_any _ _ _ HO.out.1.rd (by omega)).mono ?_
  rintro e w3 ⟨v, v0, v1, rfl, hg, hr⟩
  rw [if_neg (by omega)] at v1
  have H3 := Lib.hid (HO.out.1.step hlr hg hr)
  clear hg hr
  have hvw : IntKind.i64.wrap (2 + v) = 2 + v := IntWalk.i64_in _ (by omega)
  go_wp2_with fail
  exact bodyPost_ret (v := .tuple #[.slice la l.length lc, .int .i64 (2 + v)]) (by simp [results, Try.results19, go_sem]) rfl ⟨l, la, lc, 2 + v, hl, HO.out.2, by omega, by omega, rfl, grownBy_new HG.out.1 H3.out.g (Nat.le_refl _), pk_own H3.out.ow⟩

set_option maxRecDepth 100000 in
set_option maxHeartbeats 1000000 in
theorem same_opts (a b : Option Addr) (c d : Nat) (l : List Pk) (w : World) (h : PkAt w a l) (k : PkAt w b l) (hl : l.length ≤ 1048576) : Calls Try.prog 23 #[.slice a l.length c, .slice b l.length d] w fun e w' => e = .returned (.bool true) ∧ w.grownBy w' none := by
  have H := Lib.hid (And.intro h k)
  clear h k
  go_enter Try.func23, Try.ntmps23
  go_wp2_with fail
  go_loopw [5] (fun i wr => EqRel w l.length i wr) (fun i _ => l.length - (intOf i).toNat)
  case atStart => exact ⟨0, Nat.zero_le _, rfl, World.grownBy.refl _ _⟩
  case round =>
    obtain ⟨j, hj, rfl, hg⟩ := hrel
    have HS := Lib.hid hg
    clear hg
    by_cases hlt : j < l.length
    · rcases (H.out.1.kept HS.out) with h0 | ⟨b1, off1, rfl, hb1, hc⟩
      · rw [h0] at hlt
        simp at hlt
      · rcases (H.out.2.kept HS.out) with h0 | ⟨b2, off2, rfl, hb2, hd⟩
        · rw [h0] at hlt
          simp at hlt
        · obtain ⟨c0, c1⟩ := hc j hlt
          obtain ⟨d0, d1⟩ := hd j hlt
          clear hc hd
          generalize l[j] = x at *
          obtain ⟨t, m⟩ := x
          have hlt' : (j : Int) < (l.length : Int) := by omega
          have hj0 : (0 : Int) ≤ (j : Int) := by omega
          go_wp2_with fail
          go_quiet (fail)
          go_wp2_with fail
          go_roundw
          case rel => exact ⟨j + 1, hlt, by go_num, grownBy_trans HS.out (grownBy_drewN _)⟩
          case measure => simp [intOf]; omega
    · obtain rfl : j = l.length := by omega
      go_wp2_with fail
      go_ret
      exact ⟨rfl, HS.out⟩

end Go.Proofs.Ytefpnbmjcailgaa
