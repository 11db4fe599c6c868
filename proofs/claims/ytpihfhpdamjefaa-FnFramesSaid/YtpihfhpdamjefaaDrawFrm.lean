/- The drawings of frames. -/
import Derived.Test.YtpihfhpdamjefaaFrmI
import Derived.Test.YtpihfhpdamjefaaMineR
import Derived.Test.YtpihfhpdamjefaaHurt
namespace Go.Proofs.Ytpihfhpdamjefaa
open Go.RowKit

def FrmDPost (w : World) (r : Nat) (e : Ending) (w' : World) : Prop :=
  ∃ x : Frm, e = .returned x.val ∧ w.grownBy w' (some r) ∧ RdOk w' r

abbrev zeroCells (E : Nat) : List (Addr × Value) := frmCells E (.string ⟨#[]⟩) (.string ⟨#[]⟩) (.int .i64 0) (.int .i64 0) (.string ⟨#[]⟩)
theorem frmr_facts {w w' : World} {r F : Nat} {t f v k b : Value} (hm : MineR w r (frmCells F t f v k b) w') : w'.cell? ⟨F, 0, none⟩ = some t ∧ w'.cell? ⟨F, 1, none⟩ = some f ∧ w'.cell? ⟨F, 2, none⟩ = some v ∧ w'.cell? ⟨F, 3, none⟩ = some k ∧ w'.cell? ⟨F, 4, none⟩ = some b :=
  ⟨hm.cell _ _ (by simp [frmCells]), hm.cell _ _ (by simp [frmCells]), hm.cell _ _ (by simp [frmCells]), hm.cell _ _ (by simp [frmCells]), hm.cell _ _ (by simp [frmCells])⟩
theorem frmr_frees {w w' : World} {r F : Nat} {t f v k b : Value} (hm : MineR w r (frmCells F t f v k b) w') : w'.frozen? ⟨F, 0, none⟩ = false ∧ w'.frozen? ⟨F, 1, none⟩ = false ∧ w'.frozen? ⟨F, 2, none⟩ = false ∧ w'.frozen? ⟨F, 3, none⟩ = false ∧ w'.frozen? ⟨F, 4, none⟩ = false :=
  ⟨hm.free ⟨F, 0, none⟩ t (by simp [frmCells]), hm.free ⟨F, 1, none⟩ f (by simp [frmCells]), hm.free ⟨F, 2, none⟩ v (by simp [frmCells]), hm.free ⟨F, 3, none⟩ k (by simp [frmCells]), hm.free ⟨F, 4, none⟩ b (by simp [frmCells])⟩
theorem frmr_set0 {w a : World} {r E C : Nat} {t f v k b : Value} (x : Value) (h : MineR w r (zeroCells E ++ frmCells C t f v k b) a) (hne : E ≠ C) : MineR w r (zeroCells E ++ frmCells C x f v k b) (a.setCell ⟨C, 0, none⟩ x) := by
  have h1 := h.set ⟨C, 0, none⟩ t x (by simp [frmCells])
  have e : ((zeroCells E ++ frmCells C t f v k b).map fun y => (y.1, if (⟨C, 0, none⟩ : Addr) = y.1 then x else y.2)) = zeroCells E ++ frmCells C x f v k b := by simp [zeroCells, frmCells, Ne.symm hne]
  rw [e] at h1
  exact h1
theorem frmr_set2 {w a : World} {r E C : Nat} {t f v k b : Value} (x : Value) (h : MineR w r (zeroCells E ++ frmCells C t f v k b) a) (hne : E ≠ C) : MineR w r (zeroCells E ++ frmCells C t f x k b) (a.setCell ⟨C, 2, none⟩ x) := by
  have h1 := h.set ⟨C, 2, none⟩ v x (by simp [frmCells])
  have e : ((zeroCells E ++ frmCells C t f v k b).map fun y => (y.1, if (⟨C, 2, none⟩ : Addr) = y.1 then x else y.2)) = zeroCells E ++ frmCells C t f x k b := by simp [zeroCells, frmCells, Ne.symm hne]
  rw [e] at h1
  exact h1
theorem frmr_set3 {w a : World} {r E C : Nat} {t f v k b : Value} (x : Value) (h : MineR w r (zeroCells E ++ frmCells C t f v k b) a) (hne : E ≠ C) : MineR w r (zeroCells E ++ frmCells C t f v x b) (a.setCell ⟨C, 3, none⟩ x) := by
  have h1 := h.set ⟨C, 3, none⟩ k x (by simp [frmCells])
  have e : ((zeroCells E ++ frmCells C t f v k b).map fun y => (y.1, if (⟨C, 3, none⟩ : Addr) = y.1 then x else y.2)) = zeroCells E ++ frmCells C t f v x b := by simp [zeroCells, frmCells, Ne.symm hne]
  rw [e] at h1
  exact h1
theorem frmr_last {w a : World} {r E : Nat} {t f v k b : Value} {ds : List (Addr × Value)} (h : MineR w r (zeroCells E ++ ds) a) : MineR w r [] (((((a.setCell ⟨E, 0, none⟩ t).setCell ⟨E, 1, none⟩ f).setCell ⟨E, 2, none⟩ v).setCell ⟨E, 3, none⟩ k).setCell ⟨E, 4, none⟩ b) := by
  have h1 := h.left.set ⟨E, 0, none⟩ _ t (by simp only [zeroCells, frmCells]; exact .head _)
  have h2 := h1.set ⟨E, 1, none⟩ _ f (by simp only [frmCells, List.map]; exact .tail _ (.head _))
  have h3 := h2.set ⟨E, 2, none⟩ _ v (by simp only [frmCells, List.map]; exact .tail _ (.tail _ (.head _)))
  have h4 := h3.set ⟨E, 3, none⟩ _ k (by simp only [frmCells, List.map]; exact .tail _ (.tail _ (.tail _ (.head _))))
  have h5 := h4.set ⟨E, 4, none⟩ _ b (by simp only [frmCells, List.map]; exact .tail _ (.tail _ (.tail _ (.tail _ (.head _)))))
  exact ⟨h5.grown, h5.rd, h5.low, by simp⟩

set_option maxRecDepth 100000 in
set_option maxHeartbeats 1000000 in
theorem frame_draw (r : Nat) (w : World) (h : RdOk w r) : Calls Try.prog 30 #[.pointer (some ⟨r, 0, none⟩)] w (FrmDPost w r) := by
  have H0 := Lib.hid (MineR.one h (frm_new w (.string ⟨#[]⟩) (.string ⟨#[]⟩) (.int .i64 0) (.int .i64 0) (.string ⟨#[]⟩) 25))
  clear h
  go_enter Try.func30, Try.ntmps30
  go_wp2_with fail
  refine (bytes_any _ 8 _ H0.out.rd (by omega)).mono ?_
  rintro e w1 ⟨b, hb, rfl, hg, hr⟩
  have H1 := Lib.hid (H0.out.kept hg hr)
  clear hg hr H0
  have hEC : w.heap.size < w1.heap.size := cell_in (frmr_facts H1.out).1
  have H2 := Lib.hid (H1.out.new (frm_new w1 (.string ⟨#[2, 0, 0, 0, 0, 1]⟩) (.string ⟨#[2, 0, 0, 0, 0, 2]⟩) (.int .i64 (-1)) (.int .i64 2048) (.string ⟨b.toArray⟩) 25))
  clear H1
  go_wp2_with fail
  refine (once_any _ _ _ H2.out.rd (by omega) (by omega)).mono ?_
  rintro e w3 ⟨d, rfl, hg, hr⟩
  have H3 := Lib.hid (H2.out.kept hg hr)
  clear hg hr H2
  cases d
  · go_wp2_with fail
    refine (below_any _ _ _ H3.out.rd (by omega)).mono ?_
    rintro e w5 ⟨u, u0, u1, rfl, hg, hr⟩
    have H5 := Lib.hid (H3.out.kept hg hr)
    clear hg hr H3 u1
    by_cases h18 : u = 18
    · subst h18
      go_wp2_with fail
      refine (off_any _ _ _ _ H5.out.rd (by omega) (by omega) (by omega)).mono ?_
      rintro e w6 ⟨x, hx, rfl, hg, hr⟩
      have H6 := Lib.hid (H5.out.kept hg hr)
      clear hg hr H5 hx
      obtain ⟨c0, c1, c2, c3, c4⟩ := frmr_facts H6.out.right
      obtain ⟨z0, z1, z2, z3, z4⟩ := frmr_frees H6.out.right
      obtain ⟨e0, e1, e2, e3, e4⟩ := frmr_facts H6.out.left
      obtain ⟨y0, y1, y2, y3, y4⟩ := frmr_frees H6.out.left
      have HY := Lib.hid (frmr_set3 (.int .i64 x) H6.out (Nat.ne_of_lt hEC))
      have HZ := Lib.hid (frmr_last (t := .string ⟨List.toArray [2, 0, 0, 0, 0, 1]⟩) (f := .string ⟨List.toArray [2, 0, 0, 0, 0, 2]⟩) (v := .int .i64 (-1)) (k := .int .i64 x) (b := .string ⟨List.toArray b⟩) HY.out)
      go_wp2_with fail
      exact bodyPost_ret (v := frameV [2, 0, 0, 0, 0, 1] [2, 0, 0, 0, 0, 2] (-1) x b) (by simp [results, Try.results30, go_sem, e0, e1, e2, e3, e4]) rfl ⟨(⟨[2, 0, 0, 0, 0, 1], [2, 0, 0, 0, 0, 2], (-1), x, b⟩ : Frm), rfl, HZ.out.grown, HZ.out.rd⟩
    · by_cases h19 : u = 19
      · subst h19
        clear h18
        go_wp2_with fail
        refine (bytes_any _ 7 _ H5.out.rd (by omega)).mono ?_
        rintro e w6 ⟨x, hx, rfl, hg, hr⟩
        have H6 := Lib.hid (H5.out.kept hg hr)
        clear hg hr H5 hx
        obtain ⟨c0, c1, c2, c3, c4⟩ := frmr_facts H6.out.right
        obtain ⟨z0, z1, z2, z3, z4⟩ := frmr_frees H6.out.right
        obtain ⟨e0, e1, e2, e3, e4⟩ := frmr_facts H6.out.left
        obtain ⟨y0, y1, y2, y3, y4⟩ := frmr_frees H6.out.left
        have HY := Lib.hid (frmr_set0 (.string ⟨x.toArray⟩) H6.out (Nat.ne_of_lt hEC))
        have HZ := Lib.hid (frmr_last (t := .string ⟨List.toArray x⟩) (f := .string ⟨List.toArray [2, 0, 0, 0, 0, 2]⟩) (v := .int .i64 (-1)) (k := .int .i64 2048) (b := .string ⟨List.toArray b⟩) HY.out)
        go_wp2_with fail
        exact bodyPost_ret (v := frameV x [2, 0, 0, 0, 0, 2] (-1) 2048 b) (by simp [results, Try.results30, go_sem, e0, e1, e2, e3, e4]) rfl ⟨(⟨x, [2, 0, 0, 0, 0, 2], (-1), 2048, b⟩ : Frm), rfl, HZ.out.grown, HZ.out.rd⟩
      · have HY := Lib.hid H5.out
        obtain ⟨c0, c1, c2, c3, c4⟩ := frmr_facts H5.out.right
        obtain ⟨z0, z1, z2, z3, z4⟩ := frmr_frees H5.out.right
        obtain ⟨e0, e1, e2, e3, e4⟩ := frmr_facts H5.out.left
        obtain ⟨y0, y1, y2, y3, y4⟩ := frmr_frees H5.out.left
        have HZ := Lib.hid (frmr_last (t := .string ⟨List.toArray [2, 0, 0, 0, 0, 1]⟩) (f := .string ⟨List.toArray [2, 0, 0, 0, 0, 2]⟩) (v := .int .i64 (-1)) (k := .int .i64 2048) (b := .string ⟨List.toArray b⟩) HY.out)
        go_wp2_with fail
        exact bodyPost_ret (v := frameV [2, 0, 0, 0, 0, 1] [2, 0, 0, 0, 0, 2] (-1) 2048 b) (by simp [results, Try.results30, go_sem, e0, e1, e2, e3, e4]) rfl ⟨(⟨[2, 0, 0, 0, 0, 1], [2, 0, 0, 0, 0, 2], (-1), 2048, b⟩ : Frm), rfl, HZ.out.grown, HZ.out.rd⟩
  · go_wp2_with fail
    refine (below_any _ _ _ H3.out.rd (by omega)).mono ?_
    rintro e w4 ⟨v, v0, v1, rfl, hg, hr⟩
    have H4a := Lib.hid (H3.out.kept hg hr)
    clear hg hr H3 v1
    obtain ⟨c0, c1, c2, c3, c4⟩ := frmr_facts H4a.out.right
    obtain ⟨z0, z1, z2, z3, z4⟩ := frmr_frees H4a.out.right
    have H4 := Lib.hid (frmr_set2 (.int .i64 v) H4a.out (Nat.ne_of_lt hEC))
    go_wp2_with fail
    generalize w4.setCell ⟨w1.heap.size, 2, none⟩ (.int .i64 v) = w7 at *
    clear c0 c1 c2 c3 c4 z0 z1 z2 z3 z4 H4a
    refine (below_any _ _ _ H4.out.rd (by omega)).mono ?_
    rintro e w5 ⟨u, u0, u1, rfl, hg, hr⟩
    have H5 := Lib.hid (H4.out.kept hg hr)
    clear hg hr H4 u1
    by_cases h18 : u = 18
    · subst h18
      go_wp2_with fail
      refine (off_any _ _ _ _ H5.out.rd (by omega) (by omega) (by omega)).mono ?_
      rintro e w6 ⟨x, hx, rfl, hg, hr⟩
      have H6 := Lib.hid (H5.out.kept hg hr)
      clear hg hr H5 hx
      obtain ⟨c0, c1, c2, c3, c4⟩ := frmr_facts H6.out.right
      obtain ⟨z0, z1, z2, z3, z4⟩ := frmr_frees H6.out.right
      obtain ⟨e0, e1, e2, e3, e4⟩ := frmr_facts H6.out.left
      obtain ⟨y0, y1, y2, y3, y4⟩ := frmr_frees H6.out.left
      have HY := Lib.hid (frmr_set3 (.int .i64 x) H6.out (Nat.ne_of_lt hEC))
      have HZ := Lib.hid (frmr_last (t := .string ⟨List.toArray [2, 0, 0, 0, 0, 1]⟩) (f := .string ⟨List.toArray [2, 0, 0, 0, 0, 2]⟩) (v := .int .i64 v) (k := .int .i64 x) (b := .string ⟨List.toArray b⟩) HY.out)
      go_wp2_with fail
      exact bodyPost_ret (v := frameV [2, 0, 0, 0, 0, 1] [2, 0, 0, 0, 0, 2] v x b) (by simp [results, Try.results30, go_sem, e0, e1, e2, e3, e4]) rfl ⟨(⟨[2, 0, 0, 0, 0, 1], [2, 0, 0, 0, 0, 2], v, x, b⟩ : Frm), rfl, HZ.out.grown, HZ.out.rd⟩
    · by_cases h19 : u = 19
      · subst h19
        clear h18
        go_wp2_with fail
        refine (bytes_any _ 7 _ H5.out.rd (by omega)).mono ?_
        rintro e w6 ⟨x, hx, rfl, hg, hr⟩
        have H6 := Lib.hid (H5.out.kept hg hr)
        clear hg hr H5 hx
        obtain ⟨c0, c1, c2, c3, c4⟩ := frmr_facts H6.out.right
        obtain ⟨z0, z1, z2, z3, z4⟩ := frmr_frees H6.out.right
        obtain ⟨e0, e1, e2, e3, e4⟩ := frmr_facts H6.out.left
        obtain ⟨y0, y1, y2, y3, y4⟩ := frmr_frees H6.out.left
        have HY := Lib.hid (frmr_set0 (.string ⟨x.toArray⟩) H6.out (Nat.ne_of_lt hEC))
        have HZ := Lib.hid (frmr_last (t := .string ⟨List.toArray x⟩) (f := .string ⟨List.toArray [2, 0, 0, 0, 0, 2]⟩) (v := .int .i64 v) (k := .int .i64 2048) (b := .string ⟨List.toArray b⟩) HY.out)
        go_wp2_with fail
        exact bodyPost_ret (v := frameV x [2, 0, 0, 0, 0, 2] v 2048 b) (by simp [results, Try.results30, go_sem, e0, e1, e2, e3, e4]) rfl ⟨(⟨x, [2, 0, 0, 0, 0, 2], v, 2048, b⟩ : Frm), rfl, HZ.out.grown, HZ.out.rd⟩
      · have HY := Lib.hid H5.out
        obtain ⟨c0, c1, c2, c3, c4⟩ := frmr_facts H5.out.right
        obtain ⟨z0, z1, z2, z3, z4⟩ := frmr_frees H5.out.right
        obtain ⟨e0, e1, e2, e3, e4⟩ := frmr_facts H5.out.left
        obtain ⟨y0, y1, y2, y3, y4⟩ := frmr_frees H5.out.left
        have HZ := Lib.hid (frmr_last (t := .string ⟨List.toArray [2, 0, 0, 0, 0, 1]⟩) (f := .string ⟨List.toArray [2, 0, 0, 0, 0, 2]⟩) (v := .int .i64 v) (k := .int .i64 2048) (b := .string ⟨List.toArray b⟩) HY.out)
        go_wp2_with fail
        exact bodyPost_ret (v := frameV [2, 0, 0, 0, 0, 1] [2, 0, 0, 0, 0, 2] v 2048 b) (by simp [results, Try.results30, go_sem, e0, e1, e2, e3, e4]) rfl ⟨(⟨[2, 0, 0, 0, 0, 1], [2, 0, 0, 0, 0, 2], v, 2048, b⟩ : Frm), rfl, HZ.out.grown, HZ.out.rd⟩

end Go.Proofs.Ytpihfhpdamjefaa
