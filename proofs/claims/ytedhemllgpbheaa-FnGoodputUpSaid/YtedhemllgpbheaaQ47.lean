/- Vi -/
import Derived.Test.YtedhemllgpbheaaQ43
import Derived.Test.YtedhemllgpbheaaQ46
namespace Go.Proofs.Ytedhemllgpbheaa
open Go.RowKit
open P7 (Pk PkAt pksV PcsP prefL)

theorem nts_put (l : List Nt) (k : Nat) (hk : k < l.length) (x : Nt) (i : Nat) (v : Value) (hi : i < 4) (h : ntL x = (ntL l[k]).set i v) : ntsV (l.set k x) = (ntsV l).set (k * 4 + i) v := by
  induction l generalizing k with
  | nil => simp at hk
  | cons y l ih => cases k with
    | zero =>
      show ntL x ++ ntsV l = (ntL y ++ ntsV l).set (0 * 4 + i) v
      rw [List.set_append_left _ _ (by simp [ntL]; omega), h]
      simp
    | succ k =>
      show ntL y ++ ntsV (l.set k x) = (ntL y ++ ntsV l).set ((k + 1) * 4 + i) v
      rw [List.set_append_right _ _ (by simp [ntL]; omega), ih k (by simpa using hk) h]
      congr 1
      simp only [ntL, List.length_cons, List.length_nil]
      congr 1
      omega
/-- One number of one note is another one. -/
theorem nt_store {W : World} {B : Nat} {X : List Nat} {sa : Option Addr} {sc : Nat} {sl : List Rg} {ga : Option Addr} {gc : Nat} {gl : List Pk} {da : Option Addr} {dc : Nat} {dl : List Rg} {ua : Option Addr} {uc : Nat} {ul : List Nt} {nc : Nat} {nl : List Nt} {g k i : Nat} {v : Int} {x : Nt} (h : LwAt W B X sa sc sl ga gc gl da dc dl ua uc ul (some ⟨g, 0, none⟩) nc nl) (hk : k < nl.length) (hi : i < 3) (hx : ntL x = (ntL nl[k]).set i (.int .i64 v)) (ha : x.a = (nl[k]).a ∧ x.c = (nl[k]).c ∧ x.l = (nl[k]).l) :
    LwAt (W.setCell ⟨g, k * 4 + i, none⟩ (.int .i64 v)) B X sa sc sl ga gc gl da dc dl ua uc ul (some ⟨g, 0, none⟩) nc (nl.set k x) := by
  obtain ⟨h1, h2⟩ := h.n.stored (k * 4 + i) (.int .i64 v)
  rw [← nts_put nl k hk x i _ (by omega) hx, ← (show (nl.set k x).length = nl.length by simp)] at h1
  refine h.growN h1 h2 (.inl rfl) fun z hz => ?_
  rcases List.mem_or_eq_of_mem_set hz with hz | rfl
  · exact h.ns z hz
  · have q := h.ns nl[k] (List.getElem_mem hk)
    unfold StN at q ⊢
    rw [ha.1, ha.2.1, ha.2.2]
    exact q
def DnPost (w : World) (e : Ending) (w' : World) : Prop :=
  ∃ (a : Option Addr) (c : Nat) (l : List Nt), e = .returned (.slice a l.length c) ∧ w.grownBy w' none ∧ NtAt w' a l ∧ l.length ≤ 400 ∧ (∀ x ∈ l, x.l.length ≤ 3) ∧ l.length ≤ c
theorem cap_any {W : World} {B : Nat} {t : TypeId} {s n c : Nat} {a : Option Addr} {xs : List Value} (h : W.ownsRow B t s (.slice a n c) n xs) : n ≤ c ∧ c ≤ maxLen := by
  rcases own_form h with ⟨rfl, rfl, rfl⟩ | ⟨g, rfl⟩
  · exact ⟨Nat.le_refl _, Nat.zero_le _⟩
  · exact cap_own h
theorem LwAt.nt {W : World} {B : Nat} {X : List Nat} {sa : Option Addr} {sc : Nat} {sl : List Rg} {ga : Option Addr} {gc : Nat} {gl : List Pk} {da : Option Addr} {dc : Nat} {dl : List Rg} {ua : Option Addr} {uc : Nat} {ul : List Nt} {na : Option Addr} {nc : Nat} {nl : List Nt} (h : LwAt W B X sa sc sl ga gc gl da dc dl ua uc ul na nc nl) : NtAt W na nl := h.r.n.at
theorem set_le {l : List Nt} {k : Nat} {x : Nt} (h : ∀ x ∈ l, x.l.length ≤ 3) (hx : x.l.length ≤ 3) : ∀ z ∈ l.set k x, z.l.length ≤ 3 := fun z hz => by
  rcases List.mem_or_eq_of_mem_set hz with hz | rfl
  · exact h z hz
  · exact hx
/-- The drawn notes, the reader beside them. -/
structure Dn (w : World) (r : Nat) (sa : Option Addr) (sc : Nat) (sl : List Rg) (ga : Option Addr) (gc : Nat) (gl : List Pk) (da : Option Addr) (dc : Nat) (dl : List Rg) (ua : Option Addr) (uc : Nat) (ul : List Nt) (na : Option Addr) (nc : Nat) (nl : List Nt) (W : World) : Prop where
  lr : w.heap.size ≤ r
  g : w.grownBy W none
  rd : RdOk W r
  l : LwAt W w.heap.size [r] sa sc sl ga gc gl da dc dl ua uc ul na nc nl
theorem Dn.step {w W W' : World} {r : Nat} {sa : Option Addr} {sc : Nat} {sl : List Rg} {ga : Option Addr} {gc : Nat} {gl : List Pk} {da : Option Addr} {dc : Nat} {dl : List Rg} {ua : Option Addr} {uc : Nat} {ul : List Nt} {na : Option Addr} {nc : Nat} {nl : List Nt} (h : Dn w r sa sc sl ga gc gl da dc dl ua uc ul na nc nl W) (hg : W.grownBy W' (some r)) (hr : RdOk W' r) : Dn w r sa sc sl ga gc gl da dc dl ua uc ul na nc nl W' :=
  ⟨h.lr, grownBy_new h.g hg h.lr, hr, h.l.of hg.size (fun k hk hx => hg.block k hk (fun e => hx (by cases e; simp)))⟩
theorem Dn.store {w W : World} {r : Nat} {sa : Option Addr} {sc : Nat} {sl : List Rg} {ga : Option Addr} {gc : Nat} {gl : List Pk} {da : Option Addr} {dc : Nat} {dl : List Rg} {ua : Option Addr} {uc : Nat} {ul : List Nt} {nc : Nat} {nl : List Nt} {g : Nat} (h : Dn w r sa sc sl ga gc gl da dc dl ua uc ul (some ⟨g, 0, none⟩) nc nl W) (j : Nat) (v : Value) : w.grownBy (W.setCell ⟨g, j, none⟩ v) none := gS h.g (own_lt h.l.n g rfl).1 j v

set_option maxRecDepth 100000 in
set_option maxHeartbeats 4000000 in
theorem draw_notes (a : Option Addr) (n c : Nat) (w : World) (h : CodeIn w a n) : Calls Try.prog 12 #[.slice a n c] w (DnPost w) := by
  have HH := Lib.hid h
  clear h
  go_enter Try.func12, Try.ntmps12
  go_wp2_with fail
  refine (open_any _ _ _ _ HH.out).mono ?_
  rintro e w1 ⟨rfl, hg, hr⟩
  have H1 := Lib.hid (And.intro hg hr)
  clear hg hr HH
  go_wp2_with fail
  refine (seen_draw w.heap.size w1 H1.out.2).mono ?_
  rintro e w2 ⟨m8, y8, ⟨t, m, y, z, p, d, o, g, u, n, sa, sc, sl, ga, gc, gl, da, dc, dl, ua, uc, ul, na, nc, nl⟩, rfl, hg, hr, hl, hle⟩
  unfold Wv.le at hle
  dsimp only at hle
  obtain ⟨_, _, _, _, hn4, _, hnm⟩ := hle
  have HD := Lib.hid (show Dn w w.heap.size sa sc sl ga gc gl da dc dl ua uc ul na nc nl w2 from ⟨Nat.le_refl _, grownBy_new H1.out.1 hg (Nat.le_refl _), hr, LwAt.base hl H1.out.1.size⟩)
  clear hg hr hl H1
  obtain ⟨r, hr0⟩ : ∃ r, r = w.heap.size := ⟨_, rfl⟩
  rw [← hr0] at HD
  try rw [← hr0]
  clear hr0
  dsimp only
  go_wp2_with fail
  refine (once_any _ _ _ HD.out.rd (by omega) (by omega)).mono ?_
  rintro e w3 ⟨b, rfl, hg, hr⟩
  have HE := Lib.hid (HD.out.step hg hr)
  clear hg hr HD
  cases b
  · go_wp2_with fail
    go_ret
    exact ⟨_, _, nl, rfl, HE.out.g, HE.out.l.nt, hn4, hnm, (cap_any HE.out.l.n).1⟩
  · by_cases h0 : nl.length = 0
    · obtain rfl : nl = [] := List.length_eq_zero_iff.mp h0
      clear h0
      go_wp2_with fail
      go_ret
      exact ⟨_, _, [], rfl, HE.out.g, HE.out.l.nt, hn4, hnm, (cap_any HE.out.l.n).1⟩
    · have h0i : (0 : Int) < (nl.length : Int) := by omega
      have h0b : decide ((0 : Int) < (nl.length : Int)) = true := decide_eq_true h0i
      have h0c : decide (0 < nl.length) = true := decide_eq_true (by omega)
      rcases own_form HE.out.l.n with ⟨_, _, e0⟩ | ⟨bq, rfl⟩
      · exact absurd e0 h0
      go_wp2_with fail
      refine (below_any _ _ _ HE.out.rd (by omega)).mono ?_
      rintro e w4 ⟨k, k0, k1, rfl, hg, hr⟩
      have hk : k < (nl.length : Int) := by split at k1 <;> omega
      clear k1 h0b
      have HF := Lib.hid (HE.out.step hg hr)
      clear hg hr HE
      obtain ⟨k, rfl⟩ : ∃ j : Nat, k = j := ⟨k.toNat, by omega⟩
      have hk2 : k < nl.length := by omega
      go_wp2_with fail
      refine (below_any _ _ _ HF.out.rd (by omega)).mono ?_
      rintro e w5 ⟨v, v0, v1, rfl, hg, hr⟩
      rw [if_neg (by omega)] at v1
      have HG := Lib.hid (HF.out.step hg hr)
      clear hg hr HF
      rcases (show v = 0 ∨ v = 1 ∨ v = 2 by omega) with rfl | rfl | rfl
      · clear v0 v1
        go_wp2_with fail
        refine (off_w _ _ _ _ HG.out.rd (by omega) (wf_of (by omega) (by omega))).mono ?_
        rintro e w6 ⟨q, _, rfl, hg, hr⟩
        have HI := Lib.hid (HG.out.step hg hr)
        clear hg hr HG
        have HP := Lib.hid (nt_store (v := q) (x := ⟨(nl[k]).k, (nl[k]).f, q, (nl[k]).a, (nl[k]).c, (nl[k]).l⟩) HI.out.l hk2 (show 2 < 3 by omega) (by simp [ntL]) ⟨rfl, rfl, rfl⟩)
        have c0 : w6.cell? ⟨bq, k * 4 + 2, none⟩ = some _ := (HI.out.l.n.cellAt (k * 4 + 2) (by omega)).trans (ntsV_get nl k hk2).2.2.1
        have f0 : w6.frozen? ⟨bq, k * 4 + 2, none⟩ = false := HI.out.l.n.frozenAt (k * 4 + 2)
        have lq := (own_lt HI.out.l.n bq rfl).2
        go_wp2_with fail
        go_ret
        exact ⟨_, _, nl.set k ⟨(nl[k]).k, (nl[k]).f, q, (nl[k]).a, (nl[k]).c, (nl[k]).l⟩, by simp, HI.out.store _ _, HP.out.nt, by simpa using hn4, set_le hnm (hnm nl[k] (List.getElem_mem hk2)), (cap_any HP.out.n).1⟩
      · clear v0 v1
        go_wp2_with fail
        refine (off_w _ _ _ _ HG.out.rd (by omega) (wf_of (by omega) (by omega))).mono ?_
        rintro e w6 ⟨q, _, rfl, hg, hr⟩
        have HI := Lib.hid (HG.out.step hg hr)
        clear hg hr HG
        have HP := Lib.hid (nt_store (v := q) (x := ⟨q, (nl[k]).f, (nl[k]).n, (nl[k]).a, (nl[k]).c, (nl[k]).l⟩) HI.out.l hk2 (show 0 < 3 by omega) (by simp [ntL]) ⟨rfl, rfl, rfl⟩)
        have c0 : w6.cell? ⟨bq, k * 4, none⟩ = some _ := (HI.out.l.n.cellAt (k * 4 + 0) (by omega)).trans (ntsV_get nl k hk2).1
        have f0 : w6.frozen? ⟨bq, k * 4, none⟩ = false := HI.out.l.n.frozenAt (k * 4 + 0)
        have lq := (own_lt HI.out.l.n bq rfl).2
        go_wp2_with fail
        go_ret
        exact ⟨_, _, nl.set k ⟨q, (nl[k]).f, (nl[k]).n, (nl[k]).a, (nl[k]).c, (nl[k]).l⟩, by simp, HI.out.store _ _, HP.out.nt, by simpa using hn4, set_le hnm (hnm nl[k] (List.getElem_mem hk2)), (cap_any HP.out.n).1⟩
      · clear v0 v1
        go_wp2_with fail
        refine (off_w _ _ _ _ HG.out.rd (by omega) (wf_of (by omega) (by omega))).mono ?_
        rintro e w6 ⟨q, _, rfl, hg, hr⟩
        have HI := Lib.hid (HG.out.step hg hr)
        clear hg hr HG
        have HP := Lib.hid (nt_store (v := q) (x := ⟨(nl[k]).k, q, (nl[k]).n, (nl[k]).a, (nl[k]).c, (nl[k]).l⟩) HI.out.l hk2 (show 1 < 3 by omega) (by simp [ntL]) ⟨rfl, rfl, rfl⟩)
        have c0 : w6.cell? ⟨bq, k * 4 + 1, none⟩ = some _ := (HI.out.l.n.cellAt (k * 4 + 1) (by omega)).trans (ntsV_get nl k hk2).2.1
        have f0 : w6.frozen? ⟨bq, k * 4 + 1, none⟩ = false := HI.out.l.n.frozenAt (k * 4 + 1)
        have lq := (own_lt HI.out.l.n bq rfl).2
        go_wp2_with fail
        go_ret
        exact ⟨_, _, nl.set k ⟨(nl[k]).k, q, (nl[k]).n, (nl[k]).a, (nl[k]).c, (nl[k]).l⟩, by simp, HI.out.store _ _, HP.out.nt, by simpa using hn4, set_le hnm (hnm nl[k] (List.getElem_mem hk2)), (cap_any HP.out.n).1⟩

set_option maxRecDepth 100000 in
theorem draw_good (a : Option Addr) (n c : Nat) (w : World) (h : CodeIn w a n) : Calls Try.prog 5 #[.slice a n c] w (DnPost w) := by
  have HH := Lib.hid h
  clear h
  go_enter Try.func5, Try.ntmps5
  go_wp2_with fail
  refine (draw_notes _ _ _ _ HH.out).mono ?_
  rintro e w1 ⟨b, d, l, rfl, hg, hn, h4, h3, h5⟩
  go_wp2_with fail
  go_ret
  exact ⟨b, d, l, rfl, hg, hn, h4, h3, h5⟩

end Go.Proofs.Ytedhemllgpbheaa

