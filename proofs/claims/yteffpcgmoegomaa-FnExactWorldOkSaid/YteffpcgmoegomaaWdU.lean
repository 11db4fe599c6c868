/- A world's size, a copy of it, whether two are the same: the laws' own helpers. -/
import Derived.Test.YteffpcgmoegomaaWdK
import Derived.Test.YteffpcgmoegomaaBdLs
import Derived.Test.YteffpcgmoegomaaNtO
namespace Go.Proofs.Yteffpcgmoegomaa
open Go.RowKit
open P7 (Pk PkAt pcsOk prefL PcsP pcs_of pcs_yes pcs_not pc1 sz_packet SzRel to_packet ToRel infoPk pksV pks_set pkAt_own eq_packets)

def SzKPost (w : World) (l : List Pk) (e : Ending) (w' : World) : Prop :=
  ∃ q : Int, e = .returned (.int .i64 q) ∧ w.grownBy w' none ∧ (0 ≤ q → q ≤ 1048576 ∧ l.length ≤ 1048576 ∧ ∀ x ∈ l, x.2.length ≤ 1048576)
def SzNKPost (w : World) (t : List Nt) (e : Ending) (w' : World) : Prop := (∃ r : Int, e = .returned (.int .i64 r) ∧ (0 ≤ r → r ≤ 1048576 ∧ t.length ≤ 1048576 ∧ ∀ x ∈ t, x.l.length ≤ 1048576)) ∧ w.grownBy w' none

set_option maxRecDepth 100000 in
set_option maxHeartbeats 1000000 in
theorem sz_piecesK (K : Int) (K0 : 0 ≤ K) (K1 : K ≤ 1048576) (a : Option Addr) (c : Nat) (l : List Pk) (w : World) (h : PkAt w a l) (hl : l.length ≤ 9223372036854775807) (hm : ∀ x ∈ l, x.2.length ≤ 9223372036854775807) : Calls Try.prog 19 #[.slice a l.length c, .int .i64 K] w (SzKPost w l) := by
  have H := Lib.hid h
  have HM := Lib.hid hm
  clear h hm
  by_cases hn : (l.length : Int) ≤ K
  · go_enter Try.func19, Try.ntmps19
    go_wp2_with fail
    go_loopw [1, 5] (fun k i wr => SzRel w l k i wr) (fun _ i _ => l.length - (intOf i).toNat)
    case atStart => exact ⟨0, K - l.length, Nat.zero_le _, rfl, rfl, by omega, by omega, World.grownBy.refl _ _, by simp⟩
    case round =>
      obtain ⟨j, q, hj, rfl, rfl, hq0, hq1, hg, hall⟩ := hrel
      have HS := Lib.hid (And.intro hg hall)
      clear hg hall
      by_cases hlt : j < l.length
      · rcases (H.out.kept HS.out.1) with h0 | ⟨b, off, rfl, hb, hc⟩
        · rw [h0] at hlt
          simp at hlt
        · obtain ⟨c0, c1⟩ := hc j hlt
          clear hc
          have hmx := HM.out l[j] (List.getElem_mem hlt)
          have HX := Lib.hid (all_next (P := fun x : Pk => x.2.length ≤ 1048576) l j hlt HS.out.2)
          generalize l[j] = x at *
          obtain ⟨t, m⟩ := x
          simp only at hmx
          have hlt' : (j : Int) < (l.length : Int) := by omega
          by_cases hm : (m.length : Int) ≤ q
          · go_wp2_with fail
            refine (sz_packet t m q _ hq0 hq1 (by omega)).mono ?_
            rintro e w8 ⟨rfl, hg⟩
            rw [if_pos hm]
            have H8 := Lib.hid (grownBy_trans HS.out.1 hg)
            clear hg c0 c1
            have hq2 : 0 ≤ q - (m.length : Int) := by omega
            have hq3 : q - (m.length : Int) ≤ 1048576 := by omega
            go_wp2_with fail
            go_roundw
            case rel => exact ⟨j + 1, _, hlt, by go_num, rfl, hq2, hq3, H8.out, HX.out (by show m.length ≤ _; omega)⟩
            case measure => simp [intOf]; omega
          · go_wp2_with fail
            refine (sz_packet t m q _ hq0 hq1 (by omega)).mono ?_
            rintro e w8 ⟨rfl, hg⟩
            rw [if_neg (by omega : ¬ (m.length : Int) ≤ q)]
            have H8 := Lib.hid (grownBy_trans HS.out.1 hg)
            clear hg c0 c1
            go_wp2_with fail
            go_ret
            exact ⟨_, rfl, H8.out, by omega⟩
      · obtain rfl : j = l.length := by omega
        go_wp2_with fail
        go_ret
        exact ⟨_, rfl, HS.out.1, fun _ => ⟨by omega, by omega, fun x hx => HS.out.2 x (by rw [List.take_length]; exact hx)⟩⟩
  · go_enter Try.func19, Try.ntmps19
    go_wp2_with fail
    go_ret
    exact ⟨_, rfl, World.grownBy.refl _ _, by omega⟩

set_option maxRecDepth 100000 in
set_option maxHeartbeats 1000000 in
theorem sz_notesK (K : Int) (K0 : 0 ≤ K) (K1 : K ≤ 1048576) (ao : Option Addr) (c : Nat) (t : List Nt) (w : World) (h : NtAt w ao t) (ht : t.length ≤ maxLen) (hm : ∀ x ∈ t, x.l.length ≤ maxLen) : Calls Try.prog 21 #[.slice ao t.length c, .int .i64 K] w (SzNKPost w t) := by
  unfold maxLen at ht hm
  have H := Lib.hid (And.intro h hm)
  clear h hm
  by_cases h1 : (t.length : Int) ≤ K
  · go_enter Try.func21, Try.ntmps21
    go_wp2_with fail
    go_loopw [1, 5] (fun left i wr => SzNRel w t left i wr) (fun _ i _ => t.length - (intOf i).toNat)
    case atStart => exact ⟨0, _, Nat.zero_le _, rfl, rfl, by omega, by omega, by simp, World.grownBy.refl _ _⟩
    case round =>
      obtain ⟨j, q, hj, rfl, rfl, q0, q1, hx, hg⟩ := hrel
      have HS := Lib.hid (And.intro hx hg)
      clear hx hg
      by_cases hlt : j < t.length
      · rcases (H.out.1.kept HS.out.2) with h0 | ⟨b, off, rfl, hb, hc⟩
        · rw [h0] at hlt
          simp at hlt
        · obtain ⟨⟨c0, c1, c2, c3⟩, _⟩ := hc j hlt
          have hlm := H.out.2 _ (List.getElem_mem hlt)
          have HL := Lib.hid (fun (h : (t[j]).l.length ≤ 1048576) => all_next t j hlt HS.out.1 h)
          clear hc
          generalize t[j] = x at *
          obtain ⟨xk, xf, xn, xa, xc, xl⟩ := x
          dsimp only at c0 c1 c2 c3 hlm
          have hlt' : (j : Int) < (t.length : Int) := by omega
          by_cases hq : (xl.length : Int) ≤ q
          · go_wp2_with fail
            refine (sz_note xk xf xn xa xc xl q _ (by omega) q0 q1).mono ?_
            rintro e w9 ⟨rfl, hg⟩
            rw [if_pos hq]
            have HW := Lib.hid (grownBy_trans HS.out.2 hg)
            have hq2 : ¬ q - (xl.length : Int) < 0 := by omega
            clear hg c0 c1 c2 c3
            go_wp2_with fail
            go_roundw
            case rel => exact ⟨j + 1, _, hlt, by go_num, rfl, by omega, by omega, HL.out (by first | omega | (dsimp only; omega)), HW.out⟩
            case measure => simp [intOf]; omega
          · go_wp2_with fail
            refine (sz_note xk xf xn xa xc xl q _ (by omega) q0 q1).mono ?_
            rintro e w9 ⟨rfl, hg⟩
            rw [if_neg (by omega)]
            have HW := Lib.hid (grownBy_trans HS.out.2 hg)
            clear hg c0 c1 c2 c3
            go_wp2_with fail
            go_ret
            exact ⟨⟨_, rfl, fun h => absurd h (by omega)⟩, HW.out⟩
      · obtain rfl : j = t.length := by omega
        go_wp2_with fail
        go_ret
        exact ⟨⟨_, rfl, fun _ => ⟨by omega, by omega, fun x hx => HS.out.1 x (by rw [List.take_length]; exact hx)⟩⟩, HS.out.2⟩
  · go_enter Try.func21, Try.ntmps21
    go_wp2_with fail
    go_ret
    exact ⟨⟨_, rfl, fun h => absurd h (by omega)⟩, World.grownBy.refl _ _⟩

set_option maxRecDepth 100000 in
theorem sz_boardK (K : Int) (K0 : 0 ≤ K) (K1 : K ≤ 1048576) (u n : Int) (a : Option Addr) (c : Nat) (l : List Rg) (w : World) (hl : l.length ≤ 9223372036854775807) : Calls Try.prog 18 #[bdV u n a l.length c, .int .i64 K] w fun e w' => (∃ r : Int, e = .returned (.int .i64 r) ∧ (0 ≤ r → r ≤ 1048576 ∧ l.length ≤ 1048576)) ∧ w.grownBy w' none := by
  by_cases h1 : (l.length : Int) ≤ K
  · go_enter Try.func18, Try.ntmps18
    go_wp2_with fail
    refine (sz_rangesG _ _ _ _ _ (by omega) K0 K1).mono ?_
    rintro e w1 ⟨rfl, rfl⟩
    rw [if_pos h1]
    have h2 : ¬ K - (l.length : Int) < 0 := by omega
    go_wp2_with fail
    go_ret
    exact ⟨⟨_, rfl, fun _ => by omega⟩, World.grownBy_alloc _ _ _⟩
  · go_enter Try.func18, Try.ntmps18
    go_wp2_with fail
    refine (sz_rangesG _ _ _ _ _ (by omega) K0 K1).mono ?_
    rintro e w1 ⟨rfl, rfl⟩
    rw [if_neg (by omega : ¬ (l.length : Int) ≤ K)]
    go_wp2_with fail
    go_ret
    exact ⟨⟨_, rfl, fun h => by omega⟩, World.grownBy_alloc _ _ _⟩

def ToOwnP (w : World) (l : List Pk) (e : Ending) (w' : World) : Prop :=
  ∃ g : Nat, e = .returned (.slice (some ⟨g, 0, none⟩) l.length l.length) ∧ w.grownBy w' none ∧ w'.ownsRow w.heap.size 61 2 (.slice (some ⟨g, 0, none⟩) l.length l.length) l.length (pksV l)

set_option maxRecDepth 100000 in
set_option maxHeartbeats 1000000 in
theorem to_ownedP (a : Option Addr) (c : Nat) (l : List Pk) (w : World) (h : PkAt w a l) (hl : l.length ≤ 1048576) : Calls Try.prog 32 #[.slice a l.length c] w (ToOwnP w l) := by
  obtain ⟨i0, hi, hz0, hz1, hz2⟩ := info_of infoPk
  have H := Lib.hid h
  clear h
  go_enter Try.func32, Try.ntmps32
  go_wp2_with (at_make; refine wpList_make_full _ rfl _ _ 37 rfl w.heap.size 61 i0 _ 2 Try.underlying37 hi hz0 hz1 _ _ _ _ l.length rfl rfl rfl rfl ?c1 ?c2 ?c3 ?_)
  case c1 => rw [hz2]; omega
  case c2 => unfold maxLen; omega
  case c3 => exact Nat.le_refl _
  intro w1 hown hg
  have HS := Lib.hid (And.intro hown hg)
  clear hown hg
  go_wp2_with fail
  go_loopw [4] (fun i wr => P7.ToRel w l (madeCells #[.int .i64 0, .string ⟨#[]⟩] (l.length * 2)).toList i wr) (fun i _ => l.length - (intOf i).toNat)
  case atStart => exact ⟨0, Nat.zero_le _, rfl, HS.out.2, by simpa [pksV] using HS.out.1⟩
  case round =>
    obtain ⟨j, hj, rfl, hg, hown⟩ := hrel
    have HR := Lib.hid (And.intro hg hown)
    clear hg hown
    by_cases hlt : j < l.length
    · rcases (H.out.kept HR.out.1) with h0 | ⟨b, off, rfl, hb, hc⟩
      · rw [h0] at hlt
        simp at hlt
      · obtain ⟨c0, c1⟩ := hc j hlt
        clear hc
        have HN := Lib.hid (pks_set l _ j hlt (by simp [size_madeCells] : (madeCells #[.int .i64 0, .string ⟨#[]⟩] (l.length * 2)).toList.length = l.length * 2))
        generalize l[j] = x at *
        obtain ⟨t, m⟩ := x
        have hlt' : (j : Int) < (l.length : Int) := by omega
        go_wp2_with fail
        refine (to_packet t m _).mono ?_
        rintro e w8 ⟨rfl, hg⟩
        have hown := HR.out.2.kept hg (by simp [Value.ownBlock])
        have hl2 : (pksV (l.take j) ++ (madeCells #[.int .i64 0, .string ⟨#[]⟩] (l.length * 2)).toList.drop (j * 2)).length = l.length * 2 := hown.1
        obtain ⟨y0, d0⟩ : ∃ y, w8.cell? ⟨w.heap.size, j * 2, none⟩ = some y := by
          rw [hown.cellAt (j * 2) (by omega)]
          exact ⟨_, List.getElem?_eq_getElem (by rw [hl2]; omega)⟩
        obtain ⟨y1, d1⟩ : ∃ y, w8.cell? ⟨w.heap.size, j * 2 + 1, none⟩ = some y := by
          rw [hown.cellAt (j * 2 + 1) (by omega)]
          exact ⟨_, List.getElem?_eq_getElem (by rw [hl2]; omega)⟩
        have f0 := hown.frozenAt (j * 2)
        have f1 := hown.frozenAt (j * 2 + 1)
        have hs1 := hown.stored (j * 2) (.int .i64 t)
        have f2 := hs1.1.frozenAt (j * 2 + 1)
        obtain ⟨y, d2⟩ : ∃ y, (w8.setCell ⟨w.heap.size, j * 2, none⟩ (.int .i64 t)).cell? ⟨w.heap.size, j * 2 + 1, none⟩ = some y := by
          rw [hs1.1.cellAt (j * 2 + 1) (by omega)]
          exact ⟨_, List.getElem?_eq_getElem (by rw [List.length_set, hl2]; omega)⟩
        have hs2 := hs1.1.stored (j * 2 + 1) (.string ⟨m.toArray⟩)
        have hs3 := hs2.1
        have hne := HN.out
        try dsimp only at hne
        rw [hne] at hs3
        have HW := Lib.hid (And.intro hs3 (grownBy_new (grownBy_trans HR.out.1 hg) (grownBy_trans hs1.2 hs2.2) (Nat.le_refl _)))
        clear hg c0 c1 hown hl2 hs1 hs2 hs3 hne
        go_wp2_with fail
        go_roundw
        case rel => exact ⟨j + 1, hlt, by go_num, HW.out.2, HW.out.1⟩
        case measure => simp [intOf]; omega
    · obtain rfl : j = l.length := by omega
      have hown := HR.out.2
      rw [List.take_length, List.drop_eq_nil_of_le (by simp [size_madeCells]), List.append_nil] at hown
      have HW := Lib.hid hown
      clear hown
      go_wp2_with fail
      go_ret
      exact ⟨_, rfl, HR.out.1, HW.out⟩


/-- What stays so when nothing but blocks below a number changes. -/
def UpB (B : Nat) (X : World → Prop) : Prop := ∀ W W' (r : Option Nat), X W → W.grownBy W' r → (∀ g, r = some g → g < B) → X W'
theorem up_row {B C : Nat} {e : TypeId} {s n : Nat} {v : Value} {xs : List Value} (h : B ≤ C) : UpB B (fun W => W.ownsRow C e s v n xs) := by
  intro W W' r hx hg hr
  refine hx.kept hg ?_
  cases hv : v.ownBlock with
  | none => exact .inl rfl
  | some g => exact .inr (fun e => by have h1 := (hx.lt g hv).1; have h2 := hr g e.symm; omega)
theorem up_and {B : Nat} {X Y : World → Prop} (hX : UpB B X) (hY : UpB B Y) : UpB B (fun W => X W ∧ Y W) := fun W W' r h hg hr => ⟨hX W W' r h.1 hg hr, hY W W' r h.2 hg hr⟩
theorem up_nts {B S hi : Nat} {us : List Nt} (h : B ≤ S) : UpB B (fun W => OwnNts W S hi us) := by
  intro W W' r hx hg hr
  refine ⟨hx.row.kept hg (.inr (by simp only [Value.ownBlock]; intro e; have := hr S e.symm; omega)), fun u hu => ?_, hx.dis, hx.lt⟩
  obtain ⟨q, h1, h2, h3, h4⟩ := hx.sub u hu
  exact ⟨q, h1, h2, h3, up_row (B := B) (by omega) W W' r h4 hg hr⟩
theorem nt_of_own {W : World} {S hi : Nat} {us : List Nt} (h : OwnNts W S hi us) : NtAt W (some ⟨S, 0, none⟩) us := by
  refine ntAt_own h.row rfl fun u hu => ?_
  obtain ⟨q, h1, _, _, h4⟩ := h.sub u hu
  rw [h1]
  exact rg_own h4

/-- Where a copy of a world stands: its argument, its result, the copy. -/
structure Tw (w : World) (A R O : Nat) (vs zs os : Array Value) (X : World → Prop) (W : World) : Prop where
  g : w.grownBy W none
  a : Bx W A 30 vs
  r : Bx W R 40 zs
  o : Bx W O 40 os
  d : w.heap.size ≤ A ∧ A < R ∧ R < O
  x : X W
  u : UpB (O + 1) X
theorem Tw.keep {w : World} {A R O : Nat} {vs zs os : Array Value} {X : World → Prop} {W W' : World} (h : Tw w A R O vs zs os X W) (hg : W.grownBy W' none) : Tw w A R O vs zs os X W' :=
  ⟨grownBy_trans h.g hg, h.a.keep hg, h.r.keep hg, h.o.keep hg, h.d, h.u W W' none h.x hg (by intro g e; cases e), h.u⟩
theorem g_cell (W : World) (O i : Nat) (v : Value) : W.grownBy (W.setCell ⟨O, i, none⟩ v) (some O) := ⟨rfl, rfl, rfl, by simp [World.setCell], fun k hk hne => Below.heap_setCell _ _ _ k (by simp; intro e; exact hne (by rw [e]))⟩
theorem Tw.put {w : World} {A R O : Nat} {vs zs os os' : Array Value} {X : World → Prop} {W : World} (h : Tw w A R O vs zs os X W) (i : Nat) (v : Value) (e : os.setIfInBounds i v = os') : Tw w A R O vs zs os' X (W.setCell ⟨O, i, none⟩ v) := by
  obtain ⟨d1, d2, d3⟩ := h.d
  subst e
  exact ⟨gS h.g (by omega) _ _, h.a.other (by omega) _ _, h.r.other (by omega) _ _, h.o.s i v, ⟨d1, d2, d3⟩, h.u W _ (some O) h.x (g_cell W O i v) (by intro g e; cases e; omega), h.u⟩
theorem Tw.more {w : World} {A R O : Nat} {vs zs os : Array Value} {X Y : World → Prop} {W : World} (h : Tw w A R O vs zs os X W) (hu : UpB (O + 1) Y) (hy : Y W) : Tw w A R O vs zs os (fun W => X W ∧ Y W) W :=
  ⟨h.g, h.a, h.r, h.o, h.d, ⟨h.x, hy⟩, up_and h.u hu⟩
theorem Tw.fin {w : World} {A R O : Nat} {vs zs os : Array Value} {X : World → Prop} {W : World} (h : Tw w A R O vs zs os X W) (i : Nat) (v : Value) : ∃ zs', Tw w A R O vs zs' os X (W.setCell ⟨R, i, none⟩ v) := by
  obtain ⟨d1, d2, d3⟩ := h.d
  exact ⟨_, gS h.g (by omega) _ _, h.a.other (by omega) _ _, h.r.s i v, h.o.other (by omega) _ _, ⟨d1, d2, d3⟩, h.u W _ (some R) h.x (g_cell W R i v) (by intro g e; cases e; omega), h.u⟩

theorem P7.pk_ownA {w : World} {base : Nat} {e : TypeId} {ao : Option Addr} {c : Nat} {l : List Pk} (h : w.ownsRow base e 2 (.slice ao l.length c) l.length (pksV l)) : PkAt w ao l := by
  rcases h.2 with ⟨_, h0⟩ | ⟨g, cap', cur, hv, _⟩
  · exact .inl (List.length_eq_zero_iff.mp h0)
  · simp at hv
    obtain ⟨rfl, rfl⟩ := hv
    exact pkAt_own h rfl

def TwPost (w : World) (t m y z p d o g u n : Int) (sl : List Rg) (gl : List Pk) (dl : List Rg) (ul nl : List Nt) (e : Ending) (w' : World) : Prop :=
  ∃ (sa2 ga2 da2 ua2 : Option Addr) (us : List Nt) (na2 : Option Addr) (ns : List Nt), (us.length = ul.length ∧ us.map Nt.o = ul.map Nt.o) ∧ (ns.length = nl.length ∧ ns.map Nt.o = nl.map Nt.o) ∧ e = .returned (.agg #[.int .i64 t, .int .i64 m, .int .i64 y, .int .i64 z, .int .i64 p, .int .i64 d, .int .i64 o, .int .i64 g, .int .i64 u, .int .i64 n, .slice sa2 sl.length sl.length, .slice ga2 gl.length gl.length, .slice da2 dl.length dl.length, .slice ua2 us.length us.length, .slice na2 ns.length ns.length]) ∧ w.grownBy w' none ∧ WdAt w' sa2 sl ga2 gl da2 dl ua2 us na2 ns

set_option maxRecDepth 100000 in
set_option maxHeartbeats 8000000 in
theorem to_world (t m y z p d o g u n : Int) (sa : Option Addr) (sc : Nat) (sl : List Rg) (ga : Option Addr) (gc : Nat) (gl : List Pk) (da : Option Addr) (dc : Nat) (dl : List Rg) (ua : Option Addr) (uc : Nat) (ul : List Nt) (na : Option Addr) (nc : Nat) (nl : List Nt) (w : World) (h : WdAt w sa sl ga gl da dl ua ul na nl) (hsl : sl.length ≤ 1048576) (hgl : gl.length ≤ 1048576) (hdl : dl.length ≤ 1048576) (hul : ul.length ≤ 1048576) (hnl : nl.length ≤ 1048576) (hum : ∀ x ∈ ul, x.l.length ≤ 1048576) (hnm : ∀ x ∈ nl, x.l.length ≤ 1048576) :
    Calls Try.prog 7 #[.agg #[.int .i64 t, .int .i64 m, .int .i64 y, .int .i64 z, .int .i64 p, .int .i64 d, .int .i64 o, .int .i64 g, .int .i64 u, .int .i64 n, .slice sa sl.length sc, .slice ga gl.length gc, .slice da dl.length dc, .slice ua ul.length uc, .slice na nl.length nc]] w (TwPost w t m y z p d o g u n sl gl dl ul nl) := by
  have HR := Lib.hid h
  clear h
  obtain ⟨R, hR⟩ : ∃ R, R = w.heap.size + 1 := ⟨_, rfl⟩
  obtain ⟨O, hO⟩ : ∃ O, O = w.heap.size + 1 + 1 := ⟨_, rfl⟩
  have H0 := Lib.hid (show Tw w w.heap.size R O #[.int .i64 t, .int .i64 m, .int .i64 y, .int .i64 z, .int .i64 p, .int .i64 d, .int .i64 o, .int .i64 g, .int .i64 u, .int .i64 n, .slice sa sl.length sc, .slice ga gl.length gc, .slice da dl.length dc, .slice ua ul.length uc, .slice na nl.length nc] #[.int .i64 0, .int .i64 0, .int .i64 0, .int .i64 0, .int .i64 0, .int .i64 0, .int .i64 0, .int .i64 0, .int .i64 0, .int .i64 0, .slice none 0 0, .slice none 0 0, .slice none 0 0, .slice none 0 0, .slice none 0 0] #[.int .i64 0, .int .i64 0, .int .i64 0, .int .i64 0, .int .i64 0, .int .i64 0, .int .i64 0, .int .i64 0, .int .i64 0, .int .i64 0, .slice none 0 0, .slice none 0 0, .slice none 0 0, .slice none 0 0, .slice none 0 0] (fun _ => True) (((w.alloc (.cells #[.int .i64 t, .int .i64 m, .int .i64 y, .int .i64 z, .int .i64 p, .int .i64 d, .int .i64 o, .int .i64 g, .int .i64 u, .int .i64 n, .slice sa sl.length sc, .slice ga gl.length gc, .slice da dl.length dc, .slice ua ul.length uc, .slice na nl.length nc] 30)).alloc (.cells #[.int .i64 0, .int .i64 0, .int .i64 0, .int .i64 0, .int .i64 0, .int .i64 0, .int .i64 0, .int .i64 0, .int .i64 0, .int .i64 0, .slice none 0 0, .slice none 0 0, .slice none 0 0, .slice none 0 0, .slice none 0 0] 40)).alloc (.cells #[.int .i64 0, .int .i64 0, .int .i64 0, .int .i64 0, .int .i64 0, .int .i64 0, .int .i64 0, .int .i64 0, .int .i64 0, .int .i64 0, .slice none 0 0, .slice none 0 0, .slice none 0 0, .slice none 0 0, .slice none 0 0] 40)) by
    have k1 := Bx.new w 30 #[.int .i64 t, .int .i64 m, .int .i64 y, .int .i64 z, .int .i64 p, .int .i64 d, .int .i64 o, .int .i64 g, .int .i64 u, .int .i64 n, .slice sa sl.length sc, .slice ga gl.length gc, .slice da dl.length dc, .slice ua ul.length uc, .slice na nl.length nc]
    have k2 := Bx.new (w.alloc (.cells #[.int .i64 t, .int .i64 m, .int .i64 y, .int .i64 z, .int .i64 p, .int .i64 d, .int .i64 o, .int .i64 g, .int .i64 u, .int .i64 n, .slice sa sl.length sc, .slice ga gl.length gc, .slice da dl.length dc, .slice ua ul.length uc, .slice na nl.length nc] 30)) 40 #[.int .i64 0, .int .i64 0, .int .i64 0, .int .i64 0, .int .i64 0, .int .i64 0, .int .i64 0, .int .i64 0, .int .i64 0, .int .i64 0, .slice none 0 0, .slice none 0 0, .slice none 0 0, .slice none 0 0, .slice none 0 0]
    have k3 := Bx.new ((w.alloc (.cells #[.int .i64 t, .int .i64 m, .int .i64 y, .int .i64 z, .int .i64 p, .int .i64 d, .int .i64 o, .int .i64 g, .int .i64 u, .int .i64 n, .slice sa sl.length sc, .slice ga gl.length gc, .slice da dl.length dc, .slice ua ul.length uc, .slice na nl.length nc] 30)).alloc (.cells #[.int .i64 0, .int .i64 0, .int .i64 0, .int .i64 0, .int .i64 0, .int .i64 0, .int .i64 0, .int .i64 0, .int .i64 0, .int .i64 0, .slice none 0 0, .slice none 0 0, .slice none 0 0, .slice none 0 0, .slice none 0 0] 40)) 40 #[.int .i64 0, .int .i64 0, .int .i64 0, .int .i64 0, .int .i64 0, .int .i64 0, .int .i64 0, .int .i64 0, .int .i64 0, .int .i64 0, .slice none 0 0, .slice none 0 0, .slice none 0 0, .slice none 0 0, .slice none 0 0]
    simp only [World.size_alloc] at k2 k3
    rw [← hR] at k2
    rw [← hO] at k3
    exact ⟨gA (gA (World.grownBy_alloc _ _ _) _) _, (k1.alloc _).alloc _, k2.alloc _, k3, by omega, trivial, fun _ _ _ _ _ _ => trivial⟩)
  go_enter Try.func7, Try.ntmps7
  go_upto_region 2 with fail
  try simp only [World.size_alloc]
  try rw [← hO]
  try rw [← hR]
  clear hR hO
  generalize (((w.alloc (.cells #[.int .i64 t, .int .i64 m, .int .i64 y, .int .i64 z, .int .i64 p, .int .i64 d, .int .i64 o, .int .i64 g, .int .i64 u, .int .i64 n, .slice sa sl.length sc, .slice ga gl.length gc, .slice da dl.length dc, .slice ua ul.length uc, .slice na nl.length nc] 30)).alloc (.cells #[.int .i64 0, .int .i64 0, .int .i64 0, .int .i64 0, .int .i64 0, .int .i64 0, .int .i64 0, .int .i64 0, .int .i64 0, .int .i64 0, .slice none 0 0, .slice none 0 0, .slice none 0 0, .slice none 0 0, .slice none 0 0] 40)).alloc (.cells #[.int .i64 0, .int .i64 0, .int .i64 0, .int .i64 0, .int .i64 0, .int .i64 0, .int .i64 0, .int .i64 0, .int .i64 0, .int .i64 0, .slice none 0 0, .slice none 0 0, .slice none 0 0, .slice none 0 0, .slice none 0 0] 40)) = W0 at *
  have a0 := (H0.out).a.c 0 rfl
  have o0 := (H0.out).o.c 0 rfl
  have f0 := (H0.out).o.f 0
  go_upto_region 3 with fail
  have t2_0 := (H0.out).put 0 (.int .i64 t) (os' := #[.int .i64 t, .int .i64 0, .int .i64 0, .int .i64 0, .int .i64 0, .int .i64 0, .int .i64 0, .int .i64 0, .int .i64 0, .int .i64 0, .slice none 0 0, .slice none 0 0, .slice none 0 0, .slice none 0 0, .slice none 0 0]) rfl
  have H1 := Lib.hid t2_0
  clear t2_0
  clear a0 o0 f0
  generalize W0.setCell ⟨O, 0, none⟩ (.int .i64 t) = W1 at *
  have a1 := H1.out.a.c 1 rfl
  have a2 := H1.out.a.c 2 rfl
  have a3 := H1.out.a.c 3 rfl
  have a4 := H1.out.a.c 4 rfl
  have a5 := H1.out.a.c 5 rfl
  have a6 := H1.out.a.c 6 rfl
  have a7 := H1.out.a.c 7 rfl
  go_wp2_with fail
  refine (rn_to m y z p d o g _).mono ?_
  rintro e w2 ⟨rfl, hg⟩
  have h1 := H1.out.keep hg
  clear hg a1 a2 a3 a4 a5 a6 a7
  have o1 := h1.o.c 1 rfl
  have o2 := h1.o.c 2 rfl
  have o3 := h1.o.c 3 rfl
  have o4 := h1.o.c 4 rfl
  have o5 := h1.o.c 5 rfl
  have o6 := h1.o.c 6 rfl
  have o7 := h1.o.c 7 rfl
  have f1 := h1.o.f 1
  have f2 := h1.o.f 2
  have f3 := h1.o.f 3
  have f4 := h1.o.f 4
  have f5 := h1.o.f 5
  have f6 := h1.o.f 6
  have f7 := h1.o.f 7
  have t3_0 := (h1).put 1 (.int .i64 m) (os' := #[.int .i64 t, .int .i64 m, .int .i64 0, .int .i64 0, .int .i64 0, .int .i64 0, .int .i64 0, .int .i64 0, .int .i64 0, .int .i64 0, .slice none 0 0, .slice none 0 0, .slice none 0 0, .slice none 0 0, .slice none 0 0]) rfl
  have t3_1 := (t3_0).put 2 (.int .i64 y) (os' := #[.int .i64 t, .int .i64 m, .int .i64 y, .int .i64 0, .int .i64 0, .int .i64 0, .int .i64 0, .int .i64 0, .int .i64 0, .int .i64 0, .slice none 0 0, .slice none 0 0, .slice none 0 0, .slice none 0 0, .slice none 0 0]) rfl
  have t3_2 := (t3_1).put 3 (.int .i64 z) (os' := #[.int .i64 t, .int .i64 m, .int .i64 y, .int .i64 z, .int .i64 0, .int .i64 0, .int .i64 0, .int .i64 0, .int .i64 0, .int .i64 0, .slice none 0 0, .slice none 0 0, .slice none 0 0, .slice none 0 0, .slice none 0 0]) rfl
  have t3_3 := (t3_2).put 4 (.int .i64 p) (os' := #[.int .i64 t, .int .i64 m, .int .i64 y, .int .i64 z, .int .i64 p, .int .i64 0, .int .i64 0, .int .i64 0, .int .i64 0, .int .i64 0, .slice none 0 0, .slice none 0 0, .slice none 0 0, .slice none 0 0, .slice none 0 0]) rfl
  have t3_4 := (t3_3).put 5 (.int .i64 d) (os' := #[.int .i64 t, .int .i64 m, .int .i64 y, .int .i64 z, .int .i64 p, .int .i64 d, .int .i64 0, .int .i64 0, .int .i64 0, .int .i64 0, .slice none 0 0, .slice none 0 0, .slice none 0 0, .slice none 0 0, .slice none 0 0]) rfl
  have t3_5 := (t3_4).put 6 (.int .i64 o) (os' := #[.int .i64 t, .int .i64 m, .int .i64 y, .int .i64 z, .int .i64 p, .int .i64 d, .int .i64 o, .int .i64 0, .int .i64 0, .int .i64 0, .slice none 0 0, .slice none 0 0, .slice none 0 0, .slice none 0 0, .slice none 0 0]) rfl
  have t3_6 := (t3_5).put 7 (.int .i64 g) (os' := #[.int .i64 t, .int .i64 m, .int .i64 y, .int .i64 z, .int .i64 p, .int .i64 d, .int .i64 o, .int .i64 g, .int .i64 0, .int .i64 0, .slice none 0 0, .slice none 0 0, .slice none 0 0, .slice none 0 0, .slice none 0 0]) rfl
  have H2 := Lib.hid t3_6
  clear h1 t3_0 t3_1 t3_2 t3_3 t3_4 t3_5 t3_6
  go_upto_region 4 with fail
  clear o1 f1 o2 f2 o3 f3 o4 f4 o5 f5 o6 f6 o7 f7
  generalize (((((((w2.setCell ⟨O, 1, none⟩ (.int .i64 m)).setCell ⟨O, 2, none⟩ (.int .i64 y)).setCell ⟨O, 3, none⟩ (.int .i64 z)).setCell ⟨O, 4, none⟩ (.int .i64 p)).setCell ⟨O, 5, none⟩ (.int .i64 d)).setCell ⟨O, 6, none⟩ (.int .i64 o)).setCell ⟨O, 7, none⟩ (.int .i64 g)) = W2 at *
  have a8 := H2.out.a.c 8 rfl
  have a9 := H2.out.a.c 9 rfl
  have a10 := H2.out.a.c 10 rfl
  go_wp2_with fail
  refine (to_board u n sa sc sl _ (HR.out.s.kept H2.out.g) hsl).mono ?_
  rintro e w3 ⟨q0, rfl, hg, ho⟩
  have hB := H2.out.o.lt
  have h1 := (H2.out.keep hg).more (up_row (by omega)) ho
  clear hg a8 a9 a10
  have o8 := h1.o.c 8 rfl
  have o9 := h1.o.c 9 rfl
  have o10 := h1.o.c 10 rfl
  have f8 := h1.o.f 8
  have f9 := h1.o.f 9
  have f10 := h1.o.f 10
  have t4_0 := (h1).put 8 (.int .i64 u) (os' := #[.int .i64 t, .int .i64 m, .int .i64 y, .int .i64 z, .int .i64 p, .int .i64 d, .int .i64 o, .int .i64 g, .int .i64 u, .int .i64 0, .slice none 0 0, .slice none 0 0, .slice none 0 0, .slice none 0 0, .slice none 0 0]) rfl
  have t4_1 := (t4_0).put 9 (.int .i64 n) (os' := #[.int .i64 t, .int .i64 m, .int .i64 y, .int .i64 z, .int .i64 p, .int .i64 d, .int .i64 o, .int .i64 g, .int .i64 u, .int .i64 n, .slice none 0 0, .slice none 0 0, .slice none 0 0, .slice none 0 0, .slice none 0 0]) rfl
  have t4_2 := (t4_1).put 10 (.slice (some ⟨q0, 0, none⟩) sl.length sl.length) (os' := #[.int .i64 t, .int .i64 m, .int .i64 y, .int .i64 z, .int .i64 p, .int .i64 d, .int .i64 o, .int .i64 g, .int .i64 u, .int .i64 n, .slice (some ⟨q0, 0, none⟩) sl.length sl.length, .slice none 0 0, .slice none 0 0, .slice none 0 0, .slice none 0 0]) rfl
  have H3 := Lib.hid t4_2
  clear h1 t4_0 t4_1 t4_2
  go_upto_region 5 with fail
  clear o8 f8 o9 f9 o10 f10
  generalize (((w3.setCell ⟨O, 8, none⟩ (.int .i64 u)).setCell ⟨O, 9, none⟩ (.int .i64 n)).setCell ⟨O, 10, none⟩ (.slice (some ⟨q0, 0, none⟩) sl.length sl.length)) = W3 at *
  clear ho hB
  have a11 := H3.out.a.c 11 rfl
  go_wp2_with fail
  refine (to_ownedP ga gc gl _ (HR.out.g.kept H3.out.g) hgl).mono ?_
  rintro e w4 ⟨q1, rfl, hg, ho⟩
  have hB := H3.out.o.lt
  have h1 := (H3.out.keep hg).more (up_row (by omega)) ho
  clear hg a11
  have o11 := h1.o.c 11 rfl
  have f11 := h1.o.f 11
  have t5_0 := (h1).put 11 (.slice (some ⟨q1, 0, none⟩) gl.length gl.length) (os' := #[.int .i64 t, .int .i64 m, .int .i64 y, .int .i64 z, .int .i64 p, .int .i64 d, .int .i64 o, .int .i64 g, .int .i64 u, .int .i64 n, .slice (some ⟨q0, 0, none⟩) sl.length sl.length, .slice (some ⟨q1, 0, none⟩) gl.length gl.length, .slice none 0 0, .slice none 0 0, .slice none 0 0]) rfl
  have H4 := Lib.hid t5_0
  clear h1 t5_0
  go_upto_region 6 with fail
  clear o11 f11
  generalize (w4.setCell ⟨O, 11, none⟩ (.slice (some ⟨q1, 0, none⟩) gl.length gl.length)) = W4 at *
  clear ho hB
  have a12 := H4.out.a.c 12 rfl
  go_wp2_with fail
  refine (to_ranges da dc dl _ (HR.out.d.kept H4.out.g) hdl).mono ?_
  rintro e w5 ⟨rfl, hg, ho⟩
  have hB := H4.out.o.lt
  obtain ⟨q2, hq⟩ : ∃ q, W4.heap.size = q := ⟨_, rfl⟩
  rw [hq] at ho hB ⊢
  clear hq
  have h1 := (H4.out.keep hg).more (up_row (by omega)) ho
  clear hg a12
  have o12 := h1.o.c 12 rfl
  have f12 := h1.o.f 12
  have t6_0 := (h1).put 12 (.slice (some ⟨q2, 0, none⟩) dl.length dl.length) (os' := #[.int .i64 t, .int .i64 m, .int .i64 y, .int .i64 z, .int .i64 p, .int .i64 d, .int .i64 o, .int .i64 g, .int .i64 u, .int .i64 n, .slice (some ⟨q0, 0, none⟩) sl.length sl.length, .slice (some ⟨q1, 0, none⟩) gl.length gl.length, .slice (some ⟨q2, 0, none⟩) dl.length dl.length, .slice none 0 0, .slice none 0 0]) rfl
  have H5 := Lib.hid t6_0
  clear h1 t6_0
  go_upto_region 7 with fail
  clear o12 f12
  generalize (w5.setCell ⟨O, 12, none⟩ (.slice (some ⟨q2, 0, none⟩) dl.length dl.length)) = W5 at *
  clear ho hB
  have a13 := H5.out.a.c 13 rfl
  go_wp2_with fail
  refine (to_notesO ua uc ul _ (HR.out.u.kept H5.out.g) hul hum).mono ?_
  rintro e w6 ⟨us, hu1, hu2, rfl, hg, _, ho⟩
  have hB := H5.out.o.lt
  obtain ⟨q3, hq⟩ : ∃ q, W5.heap.size = q := ⟨_, rfl⟩
  rw [hq] at ho hB ⊢
  have HU := Lib.hid (And.intro hu1 hu2)
  clear hq hu1 hu2
  have h1 := (H5.out.keep hg).more (up_nts (by omega)) ho
  clear hg a13
  have o13 := h1.o.c 13 rfl
  have f13 := h1.o.f 13
  have t7_0 := (h1).put 13 (.slice (some ⟨q3, 0, none⟩) ul.length ul.length) (os' := #[.int .i64 t, .int .i64 m, .int .i64 y, .int .i64 z, .int .i64 p, .int .i64 d, .int .i64 o, .int .i64 g, .int .i64 u, .int .i64 n, .slice (some ⟨q0, 0, none⟩) sl.length sl.length, .slice (some ⟨q1, 0, none⟩) gl.length gl.length, .slice (some ⟨q2, 0, none⟩) dl.length dl.length, .slice (some ⟨q3, 0, none⟩) ul.length ul.length, .slice none 0 0]) rfl
  have H6 := Lib.hid t7_0
  clear h1 t7_0
  go_upto_region 8 with fail
  clear o13 f13
  generalize (w6.setCell ⟨O, 13, none⟩ (.slice (some ⟨q3, 0, none⟩) ul.length ul.length)) = W6 at *
  clear ho hB
  have a14 := H6.out.a.c 14 rfl
  go_wp2_with fail
  refine (to_notesO na nc nl _ (HR.out.n.kept H6.out.g) hnl hnm).mono ?_
  rintro e w7 ⟨ns, hu1, hu2, rfl, hg, _, ho⟩
  have hB := H6.out.o.lt
  obtain ⟨q4, hq⟩ : ∃ q, W6.heap.size = q := ⟨_, rfl⟩
  rw [hq] at ho hB ⊢
  have HN := Lib.hid (And.intro hu1 hu2)
  clear hq hu1 hu2
  have h1 := (H6.out.keep hg).more (up_nts (by omega)) ho
  clear hg a14
  have o14 := h1.o.c 14 rfl
  have f14 := h1.o.f 14
  have t8_0 := (h1).put 14 (.slice (some ⟨q4, 0, none⟩) nl.length nl.length) (os' := #[.int .i64 t, .int .i64 m, .int .i64 y, .int .i64 z, .int .i64 p, .int .i64 d, .int .i64 o, .int .i64 g, .int .i64 u, .int .i64 n, .slice (some ⟨q0, 0, none⟩) sl.length sl.length, .slice (some ⟨q1, 0, none⟩) gl.length gl.length, .slice (some ⟨q2, 0, none⟩) dl.length dl.length, .slice (some ⟨q3, 0, none⟩) ul.length ul.length, .slice (some ⟨q4, 0, none⟩) nl.length nl.length]) rfl
  have H7 := Lib.hid t8_0
  clear h1 t8_0
  go_upto_region 9 with fail
  clear o14 f14
  generalize (w7.setCell ⟨O, 14, none⟩ (.slice (some ⟨q4, 0, none⟩) nl.length nl.length)) = W7 at *
  clear ho hB
  have o0 := H7.out.o.c 0 rfl
  have o1 := H7.out.o.c 1 rfl
  have o2 := H7.out.o.c 2 rfl
  have o3 := H7.out.o.c 3 rfl
  have o4 := H7.out.o.c 4 rfl
  have o5 := H7.out.o.c 5 rfl
  have o6 := H7.out.o.c 6 rfl
  have o7 := H7.out.o.c 7 rfl
  have o8 := H7.out.o.c 8 rfl
  have o9 := H7.out.o.c 9 rfl
  have o10 := H7.out.o.c 10 rfl
  have o11 := H7.out.o.c 11 rfl
  have o12 := H7.out.o.c 12 rfl
  have o13 := H7.out.o.c 13 rfl
  have o14 := H7.out.o.c 14 rfl
  have r0 := H7.out.r.c 0 rfl
  have r1 := H7.out.r.c 1 rfl
  have r2 := H7.out.r.c 2 rfl
  have r3 := H7.out.r.c 3 rfl
  have r4 := H7.out.r.c 4 rfl
  have r5 := H7.out.r.c 5 rfl
  have r6 := H7.out.r.c 6 rfl
  have r7 := H7.out.r.c 7 rfl
  have r8 := H7.out.r.c 8 rfl
  have r9 := H7.out.r.c 9 rfl
  have r10 := H7.out.r.c 10 rfl
  have r11 := H7.out.r.c 11 rfl
  have r12 := H7.out.r.c 12 rfl
  have r13 := H7.out.r.c 13 rfl
  have r14 := H7.out.r.c 14 rfl
  have f0 := H7.out.r.f 0
  have f1 := H7.out.r.f 1
  have f2 := H7.out.r.f 2
  have f3 := H7.out.r.f 3
  have f4 := H7.out.r.f 4
  have f5 := H7.out.r.f 5
  have f6 := H7.out.r.f 6
  have f7 := H7.out.r.f 7
  have f8 := H7.out.r.f 8
  have f9 := H7.out.r.f 9
  have f10 := H7.out.r.f 10
  have f11 := H7.out.r.f 11
  have f12 := H7.out.r.f 12
  have f13 := H7.out.r.f 13
  have f14 := H7.out.r.f 14
  have lr := H7.out.r.lt
  obtain ⟨zs0, k0⟩ := (H7.out).fin 0 (.int .i64 t)
  obtain ⟨zs1, k1⟩ := (k0).fin 1 (.int .i64 m)
  obtain ⟨zs2, k2⟩ := (k1).fin 2 (.int .i64 y)
  obtain ⟨zs3, k3⟩ := (k2).fin 3 (.int .i64 z)
  obtain ⟨zs4, k4⟩ := (k3).fin 4 (.int .i64 p)
  obtain ⟨zs5, k5⟩ := (k4).fin 5 (.int .i64 d)
  obtain ⟨zs6, k6⟩ := (k5).fin 6 (.int .i64 o)
  obtain ⟨zs7, k7⟩ := (k6).fin 7 (.int .i64 g)
  obtain ⟨zs8, k8⟩ := (k7).fin 8 (.int .i64 u)
  obtain ⟨zs9, k9⟩ := (k8).fin 9 (.int .i64 n)
  obtain ⟨zs10, k10⟩ := (k9).fin 10 (.slice (some ⟨q0, 0, none⟩) sl.length sl.length)
  obtain ⟨zs11, k11⟩ := (k10).fin 11 (.slice (some ⟨q1, 0, none⟩) gl.length gl.length)
  obtain ⟨zs12, k12⟩ := (k11).fin 12 (.slice (some ⟨q2, 0, none⟩) dl.length dl.length)
  obtain ⟨zs13, k13⟩ := (k12).fin 13 (.slice (some ⟨q3, 0, none⟩) ul.length ul.length)
  obtain ⟨zs14, k14⟩ := (k13).fin 14 (.slice (some ⟨q4, 0, none⟩) nl.length nl.length)
  have HK := Lib.hid k14
  clear k0 k1 k2 k3 k4 k5 k6 k7 k8 k9 k10 k11 k12 k13 k14
  go_wp2_with fail
  refine bodyPost_ret (v := .agg #[.int .i64 t, .int .i64 m, .int .i64 y, .int .i64 z, .int .i64 p, .int .i64 d, .int .i64 o, .int .i64 g, .int .i64 u, .int .i64 n, .slice (some ⟨q0, 0, none⟩) sl.length sl.length, .slice (some ⟨q1, 0, none⟩) gl.length gl.length, .slice (some ⟨q2, 0, none⟩) dl.length dl.length, .slice (some ⟨q3, 0, none⟩) ul.length ul.length, .slice (some ⟨q4, 0, none⟩) nl.length nl.length]) (by simp [results, Try.results7, go_sem, r0, r1, r2, r3, r4, r5, r6, r7, r8, r9, r10, r11, r12, r13, r14]) rfl ⟨some ⟨q0, 0, none⟩, some ⟨q1, 0, none⟩, some ⟨q2, 0, none⟩, some ⟨q3, 0, none⟩, us, some ⟨q4, 0, none⟩, ns, HU.out, HN.out, by rw [HU.out.1, HN.out.1], HK.out.g, ?_⟩
  obtain ⟨⟨⟨⟨⟨_, x0⟩, x1⟩, x2⟩, x3⟩, x4⟩ := HK.out.x
  exact ⟨rg_own x0, P7.pk_ownA x1, rg_own x2, nt_of_own x3, nt_of_own x4⟩

end Go.Proofs.Yteffpcgmoegomaa
