/- The drawings of frames out of a code. -/
import Derived.Test.YtpihfhpdamjefaaDrawFrm
namespace Go.Proofs.Ytpihfhpdamjefaa
open Go.RowKit

def DrawFPost (w : World) (e : Ending) (w' : World) : Prop :=
  ∃ (t f b : List UInt8) (v k : Int), e = .returned (frameV t f v k b) ∧ w.grownBy w' none
theorem frme_set2 {w a : World} {r E C : Nat} {t f v k b : Value} (x : Value) (h : MineE w r (zeroCells E ++ frmCells C t f v k b) a) (hne : E ≠ C) (hr : r < C) : MineE w r (zeroCells E ++ frmCells C t f x k b) (a.setCell ⟨C, 2, none⟩ x) := by
  have h1 := h.set ⟨C, 2, none⟩ v x (by simp [frmCells]) hr
  have e : ((zeroCells E ++ frmCells C t f v k b).map fun y => (y.1, if (⟨C, 2, none⟩ : Addr) = y.1 then x else y.2)) = zeroCells E ++ frmCells C t f x k b := by simp [zeroCells, frmCells, Ne.symm hne]
  rw [e] at h1
  exact h1

set_option maxRecDepth 100000 in
set_option maxHeartbeats 1000000 in
theorem draw_frame_ok (a : Option Addr) (n c : Nat) (w : World) (h : CodeIn w a n) : Calls Try.prog 20 #[.slice a n c] w (DrawFPost w) := by
  have HA := Lib.hid (And.intro (h.kept (World.grownBy_alloc w (.cells #[.string ⟨#[]⟩, .string ⟨#[]⟩, .int .i64 0, .int .i64 0, .string ⟨#[]⟩] 25) none)) (frm_new w (.string ⟨#[]⟩) (.string ⟨#[]⟩) (.int .i64 0) (.int .i64 0) (.string ⟨#[]⟩) 25))
  clear h
  go_enter Try.func20, Try.ntmps20
  go_wp2_with fail
  refine (open_any _ _ _ _ HA.out.1).mono ?_
  rintro e w1 ⟨rfl, hg, hr⟩
  have h1 := MineE.start HA.out.2 hg hr
  rw [alloc_size] at h1
  have H1 := Lib.hid h1
  clear hg hr HA h1
  go_wp2_with fail
  refine (frame_draw _ _ H1.out.rd).mono ?_
  rintro e w2 ⟨⟨t, f, v, k, b⟩, rfl, hg, hr⟩
  have hlt := hr.lt
  have H2 := Lib.hid ((H1.out.kept hg hr).new (frm_new w2 (.string ⟨t.toArray⟩) (.string ⟨f.toArray⟩) (.int .i64 v) (.int .i64 k) (.string ⟨b.toArray⟩) 25))
  simp only [Frm.val]
  clear hg hr H1
  go_wp2_with fail
  refine (once_any _ _ _ H2.out.rd (by omega) (by omega)).mono ?_
  rintro e w3 ⟨d, rfl, hg, hr⟩
  have H3 := Lib.hid (H2.out.kept hg hr)
  clear hg hr H2
  cases d
  · obtain ⟨c0, c1, c2, c3, c4, _⟩ := frm_facts H3.out.right.mine
    obtain ⟨e0, e1, e2, e3, e4, _⟩ := frm_facts H3.out.left.mine
    obtain ⟨y0, y1, y2, y3, y4⟩ := frm_frees H3.out.left.mine
    have HZ := Lib.hid (res_grown (.string ⟨t.toArray⟩) (.string ⟨f.toArray⟩) (.int .i64 v) (.int .i64 k) (.string ⟨b.toArray⟩) H3.out.grown (Nat.le_refl _))
    go_wp2_with fail
    exact bodyPost_ret (v := frameV t f v k b) (by simp [results, Try.results20, go_sem, e0, e1, e2, e3, e4]) rfl ⟨t, f, b, v, k, rfl, HZ.out⟩
  · go_wp2_with fail
    refine (off_any _ _ _ _ H3.out.rd (by omega) (by omega) (by omega)).mono ?_
    rintro e w4 ⟨x, hx, rfl, hg, hr⟩
    have H4 := Lib.hid (H3.out.kept hg hr)
    clear hg hr H3 hx
    obtain ⟨c0, c1, c2, c3, c4, _⟩ := frm_facts H4.out.right.mine
    obtain ⟨z0, z1, z2, z3, z4⟩ := frm_frees H4.out.right.mine
    obtain ⟨e0, e1, e2, e3, e4, _⟩ := frm_facts H4.out.left.mine
    obtain ⟨y0, y1, y2, y3, y4⟩ := frm_frees H4.out.left.mine
    have H5 := Lib.hid (frme_set2 (.int .i64 x) H4.out (by omega) hlt)
    have HZ := Lib.hid (res_grown (.string ⟨t.toArray⟩) (.string ⟨f.toArray⟩) (.int .i64 x) (.int .i64 k) (.string ⟨b.toArray⟩) H5.out.grown (Nat.le_refl _))
    go_wp2_with fail
    exact bodyPost_ret (v := frameV t f x k b) (by simp [results, Try.results20, go_sem, e0, e1, e2, e3, e4]) rfl ⟨t, f, b, x, k, rfl, HZ.out⟩

set_option maxRecDepth 100000 in
theorem draw_frame (a : Option Addr) (n c : Nat) (w : World) (h : CodeIn w a n) : Calls Try.prog 9 #[.slice a n c] w (DrawFPost w) := by
  have HA := Lib.hid (h.kept (World.grownBy_alloc w (.cells #[.string ⟨#[]⟩, .string ⟨#[]⟩, .int .i64 0, .int .i64 0, .string ⟨#[]⟩] 25) none))
  have HR := Lib.hid (frm_new w (.string ⟨#[]⟩) (.string ⟨#[]⟩) (.int .i64 0) (.int .i64 0) (.string ⟨#[]⟩) 25)
  clear h
  go_enter Try.func9, Try.ntmps9
  go_wp2_with fail
  refine (draw_frame_ok _ _ _ _ HA.out).mono ?_
  rintro e w1 ⟨t, f, b, v, k, rfl, hg⟩
  have h1 := HR.out.kept hg
  obtain ⟨e0, e1, e2, e3, e4, _⟩ := frm_facts h1
  obtain ⟨y0, y1, y2, y3, y4⟩ := frm_frees h1
  have HZ := Lib.hid (res_grown (.string ⟨t.toArray⟩) (.string ⟨f.toArray⟩) (.int .i64 v) (.int .i64 k) (.string ⟨b.toArray⟩) h1.grown (Nat.le_refl _))
  clear hg h1
  go_wp2_with fail
  exact bodyPost_ret (v := frameV t f v k b) (by simp [results, Try.results9, go_sem, e0, e1, e2, e3, e4]) rfl ⟨t, f, b, v, k, rfl, HZ.out⟩

theorem frameL_len (t f : List UInt8) (v k : Int) (b : List UInt8) : (frameL t f v k b).length ≤ 412 := by
  unfold frameL
  split
  · rename_i h
    have h1 := frameH_len t f v k h.1 h.2.1
    have h2 := h.2.2.2.2.2.2.2
    unfold frameT
    rw [List.length_append]
    omega
  · simp

set_option maxRecDepth 100000 in
set_option maxHeartbeats 1000000 in
theorem draw_rframe (a : Option Addr) (n c : Nat) (w : World) (h : CodeIn w a n) : Calls Try.prog 15 #[.slice a n c] w (DrawTPost w 420) := by
  have HA := Lib.hid h
  clear h
  go_enter Try.func15, Try.ntmps15
  go_wp2_with fail
  refine (open_any _ _ _ _ HA.out).mono ?_
  rintro e w1 ⟨rfl, hg, hr⟩
  have H1 := Lib.hid (And.intro hr hg)
  clear hg hr
  go_wp2_with fail
  refine (frame_draw _ _ H1.out.1).mono ?_
  rintro e w2 ⟨⟨t, f, v, k, b⟩, rfl, hg, hr⟩
  have H2 := Lib.hid (And.intro hr (grownBy_new H1.out.2 hg (Nat.le_refl _)))
  clear hg hr H1
  simp only [Frm.val]
  go_wp2_with fail
  refine (frame_spec _ _ _ _ _ _).mono ?_
  rintro e w3 ⟨rfl, hg⟩
  have hs := frameL_len t f v k b
  generalize frameL t f v k b = s at *
  have H3 := Lib.hid (And.intro (H2.out.1.kept hg (by simp) (by simp)) (grownBy_trans H2.out.2 hg))
  clear hg H2
  go_wp2_with fail
  refine (once_any _ _ _ H3.out.1 (by omega) (by omega)).mono ?_
  rintro e w4 ⟨d, rfl, hg, hr⟩
  have H4 := Lib.hid (And.intro hr (grownBy_new H3.out.2 hg (Nat.le_refl _)))
  clear hg hr H3
  cases d
  · go_wp2_with fail
    refine (hurt_any _ s _ H4.out.1 (by omega)).mono ?_
    rintro e w5 ⟨m, hm, rfl, hg, hr⟩
    have H5 := Lib.hid (grownBy_new H4.out.2 hg (Nat.le_refl _))
    clear hg hr
    go_wp2_with fail
    go_ret
    exact ⟨m, by omega, rfl, H5.out⟩
  · go_wp2_with fail
    go_ret
    exact ⟨s, by omega, rfl, H4.out.2⟩

end Go.Proofs.Ytpihfhpdamjefaa
