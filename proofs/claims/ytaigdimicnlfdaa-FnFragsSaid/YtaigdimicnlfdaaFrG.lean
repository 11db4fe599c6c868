/- Rows of fragments: whole rows appended, compared; the drawings of a text and a size, of a fragment. -/
import Derived.Test.YtaigdimicnlfdaaFrF
import Derived.Test.YtaigdimicnlfdaaFrD
namespace Go.Proofs.Ytaigdimicnlfdaa
open Go.RowKit Go.Maps

/-- A row of fragments as an argument of append. -/
def SlF (w : World) (v : Value) (l : List Fg) : Prop := ∃ ad c, v = .slice (some ad) l.length c ∧ ∀ j u, (fgsV l)[j]? = some u → w.cell? (ad.add j) = some u

theorem SlF.kept {w w' : World} {v : Value} {l : List Fg} (h : SlF w v l) (hg : w.grownBy w' none) : SlF w' v l := by
  obtain ⟨ad, c, hv, hc⟩ := h
  exact ⟨ad, c, hv, fun j u hu => hg.cell (hc j u hu) (by simp)⟩

theorem fg_one (l : List Fg) : ∀ u ∈ fgsV l, u.oneCell' = true := by
  intro u hu
  obtain ⟨x, _, hx⟩ := List.mem_flatMap.mp hu
  simp only [fgV, List.mem_cons, List.not_mem_nil, or_false] at hx
  rcases hx with rfl | rfl | rfl <;> rfl

theorem step_append_fgx {P : Program} {w : World} {ops : Array Oper} {o : Oper} {a : Act} {K : Act → World → Prop} {Q : Exit → Act → World → Prop} {E : Prop} (hgd : o.guard = none) (s x : Operand) (t : TypeId)
    (ho : o.op = .call { callee := .builtin .append, args := #[s, x], argTypes := #[t, t] })
    (base : Nat) (e : TypeId) (i : TypeInfo) (z : Value) (bytes : Nat) (ht : P.underlying t = some (.slice e)) (hi : P.info? e = some i) (hz : i.zero = some z)
    (hsize : i.size = 3) (hby : i.bytes = bytes) (hzs : z.cells.size = 3)
    (v : Value) (n : Nat) (xs : List Value) (hs : a.eval s = v) (hown : w.ownsRow base e 3 v n xs)
    (xv : Value) (q : List Fg) (hx : a.eval x = xv) (hq : SlF w xv q)
    (h63 : n + q.length ≤ maxLen) (hbytes : (n + q.length) * bytes ≤ 140737488355328) (hbase : base ≤ w.heap.size)
    (h : ∀ v' w', w'.ownsRow base e 3 v' (n + q.length) (xs ++ fgsV q) → w.grownBy w' v.ownBlock → K (a.put o.dst v') w') :
    if Region.wanted o (yielded ops a.tmps) = true then Oper.wp P o a w K Q else E := by
  have hw : Region.wanted o (yielded ops a.tmps) = true := by simp [Region.wanted, hgd]
  rw [if_pos hw]
  obtain ⟨ad, c, rfl, hc⟩ := hq
  exact wp_append_own w s x t ho base e i z 3 bytes ht hi hz hsize hby hzs (by decide) v n xs hs hown ad q.length c (fgsV q) hx (fgsV_len q) hc (fg_one q) h63 hbytes hbase fun v' w' h2 h3 _ => h v' w' h2 h3

/-- A stretch of an owned row. -/
theorem slf_part {w : World} {B g c : Nat} {l : List Fg} (h : OwnFg w B (some ⟨g, 0, none⟩) c l) (i j : Nat) (hij : i ≤ j) (hj : j ≤ l.length) (ad : Addr) (had : i < j → ad = ⟨g, i * 3, none⟩) (cc : Nat) : SlF w (.slice (some ad) (j - i) cc) ((l.drop i).take (j - i)) := by
  have hl : ((l.drop i).take (j - i)).length = j - i := by simp only [List.length_take, List.length_drop]; omega
  refine ⟨ad, cc, by rw [hl], fun k u hu => ?_⟩
  by_cases hlt : i < j
  · obtain rfl := had hlt
    have hk : k < (j - i) * 3 := by
      have := (List.getElem?_eq_some_iff.mp hu).1
      rw [fgsV_len, hl] at this
      exact this
    have e1 : (⟨g, i * 3, none⟩ : Addr).add k = ⟨g, i * 3 + k, none⟩ := by
      unfold Addr.add
      split <;> simp_all
    rw [e1, h.cellAt (i * 3 + k) (by omega)]
    have e2 : fgsV l = fgsV (l.take i) ++ (fgsV ((l.drop i).take (j - i)) ++ fgsV (l.drop j)) := by
      have e3 : l = l.take i ++ ((l.drop i).take (j - i) ++ l.drop j) := by
        have e4 : l.drop j = (l.drop i).drop (j - i) := by rw [List.drop_drop]; congr 1; omega
        rw [e4, List.take_append_drop, List.take_append_drop]
      conv => lhs; rw [e3]
      simp only [fgsV, List.flatMap_append]
    have e5 : (fgsV (l.take i)).length = i * 3 := by rw [fgsV_len, List.length_take]; omega
    rw [e2, List.getElem?_append_right (by omega), e5, Nat.add_sub_cancel_left, List.getElem?_append_left (by rw [fgsV_len, hl]; exact hk)]
    exact hu
  · have : (l.drop i).take (j - i) = [] := by rw [show j - i = 0 by omega]; rfl
    rw [this] at hu
    simp [fgsV] at hu

def SaRel (w : World) (n : Nat) (i : Value) (wr : World) : Prop := ∃ k : Nat, k ≤ n ∧ i = .int .i64 k ∧ w.grownBy wr none

theorem fg_cells {w : World} {a : Option Addr} {l : List Fg} (h : FgAt w a l) {k : Nat} (hk : k < l.length) : ∃ b off, a = some ⟨b, off, none⟩ ∧ w.cell? ⟨b, off + k * 3, none⟩ = some (.int .i64 (l[k]).f) ∧ w.cell? ⟨b, off + k * 3 + 1, none⟩ = some (.bool (l[k]).m) ∧ w.cell? ⟨b, off + k * 3 + 2, none⟩ = some (.string ⟨(l[k]).d.toArray⟩) := by
  rcases h with h0 | ⟨b, off, rfl, _, hc⟩
  · rw [h0] at hk; simp at hk
  · obtain ⟨c0, c1, c2⟩ := hc k hk
    exact ⟨b, off, rfl, c0, c1, c2⟩

set_option maxRecDepth 100000 in
set_option maxHeartbeats 1000000 in
theorem same_fgs (a b : Option Addr) (c d : Nat) (l : List Fg) (w : World) (h : FgAt w a l) (k : FgAt w b l) (hl : l.length ≤ 100000) : Calls Try.prog 10 #[.slice a l.length c, .slice b l.length d] w fun e w' => e = .returned (.bool true) ∧ w.grownBy w' none := by
  have H := Lib.hid (And.intro h k)
  clear h k
  have e1 : ((l.length : Int) != (l.length : Int)) = false := by simp
  have e2 : ((l.length : Int) == (l.length : Int)) = true := by simp
  go_enter Try.func10, Try.ntmps10
  go_wp2_with fail
  go_loopw [5] (fun i wr => SaRel w l.length i wr) (fun i _ => l.length - (intOf i).toNat)
  case atStart => exact ⟨0, Nat.zero_le _, rfl, World.grownBy.refl _ _⟩
  case round =>
    obtain ⟨j, hj, rfl, hg⟩ := hrel
    have HS := Lib.hid hg
    clear hg
    by_cases hlt : j < l.length
    · obtain ⟨b1, off1, rfl, c0, c1, c2⟩ := fg_cells (H.out.1.kept HS.out) hlt
      obtain ⟨b2, off2, rfl, d0, d1, d2⟩ := fg_cells (H.out.2.kept HS.out) hlt
      generalize l[j] = x at *
      obtain ⟨xf, xm, xd⟩ := x
      dsimp only at c0 c1 c2 d0 d1 d2
      have hlt' : (j : Int) < (l.length : Int) := by omega
      have hj0 : (0 : Int) ≤ (j : Int) := by omega
      go_wp2_with fail
      go_quiet (fail)
      go_wp2_with fail
      go_roundw
      case rel => exact ⟨j + 1, hlt, by go_num, grownBy_trans HS.out (grownBy_drewN _)⟩
      case measure => simp [intOf]; omega
    · obtain rfl : j = l.length := by omega
      go_wp2_with fail
      go_ret
      exact ⟨rfl, HS.out⟩

def FoPost (w : World) (e : Ending) (w' : World) : Prop := ∃ (s : List UInt8) (z : Int), s.length ≤ 60 ∧ e = .returned (.tuple #[.string ⟨s.toArray⟩, .int .i64 z]) ∧ w.grownBy w' none

set_option maxRecDepth 100000 in
set_option maxHeartbeats 1000000 in
theorem draw_fo (a : Option Addr) (n c : Nat) (w : World) (h : CodeIn w a n) : Calls Try.prog 6 #[.slice a n c] w (FoPost w) := by
  have H := Lib.hid h
  clear h
  go_enter Try.func6, Try.ntmps6
  go_wp2_with fail
  refine (open_any _ _ _ _ H.out).mono ?_
  rintro e w1 ⟨rfl, hg, hr⟩
  have H1 := Lib.hid (And.intro hg hr)
  clear hg hr
  go_wp2_with fail
  refine (bytes_any _ 60 _ H1.out.2 (by omega)).mono ?_
  rintro e w2 ⟨s, hs, rfl, hg, hr⟩
  have H2 := Lib.hid (And.intro (grownBy_new H1.out.1 hg (Nat.le_refl _)) hr)
  clear hg hr
  go_wp2_with fail
  refine (once_any _ _ _ H2.out.2 (by omega) (by omega)).mono ?_
  rintro e w3 ⟨b, rfl, hg, hr⟩
  have H3 := Lib.hid (And.intro (grownBy_new H2.out.1 hg (Nat.le_refl _)) hr)
  clear hg hr
  cases b
  · go_wp2_with fail
    refine (below_any _ _ _ H3.out.2 (by omega)).mono ?_
    rintro e w4 ⟨v, v0, v1, rfl, hg, hr⟩
    rw [if_neg (by omega)] at v1
    have H4 := Lib.hid (grownBy_new H3.out.1 hg (Nat.le_refl _))
    clear hg hr
    have hw1 : IntKind.i64.wrap (1 + v) = 1 + v := IntWalk.i64_in _ (by omega)
    have hw2 : IntKind.i64.wrap (8 * (1 + v)) = 8 * (1 + v) := IntWalk.i64_in _ (by omega)
    go_wp2_with fail
    go_ret2
    exact ⟨s, 8 * (1 + v), hs, rfl, H4.out⟩
  · go_wp2_with fail
    refine (off_any _ 8 40 _ H3.out.2 (by omega) (by omega) (by omega)).mono ?_
    rintro e w4 ⟨v, hv, rfl, hg, hr⟩
    have H4 := Lib.hid (grownBy_new H3.out.1 hg (Nat.le_refl _))
    clear hg hr hv
    go_wp2_with fail
    go_ret2
    exact ⟨s, v, hs, rfl, H4.out⟩

end Go.Proofs.Ytaigdimicnlfdaa
