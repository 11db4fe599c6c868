/- The drawings of packets. -/
import Derived.Test.YtcbaenndkljlpaaIpI
import Derived.Test.YtcbaenndkljlpaaMineR
import Derived.Test.YtcbaenndkljlpaaHurt
namespace Go.Proofs.Ytcbaenndkljlpaa
open Go.RowKit

def IpDPost (w : World) (r : Nat) (e : Ending) (w' : World) : Prop :=
  ∃ (s d t p i : Int) (b : List UInt8), e = .returned (ipV s d t p i b) ∧ w.grownBy w' (some r) ∧ RdOk w' r

abbrev zeroIps (E : Nat) : List (Addr × Value) := ipCells E (.int .i64 0) (.int .i64 0) (.int .i64 0) (.int .i64 0) (.int .i64 0) (.string ⟨#[]⟩)
theorem ipr_facts {w w' : World} {r P : Nat} {s d t p i b : Value} (hm : MineR w r (ipCells P s d t p i b) w') : w'.cell? ⟨P, 0, none⟩ = some s ∧ w'.cell? ⟨P, 1, none⟩ = some d ∧ w'.cell? ⟨P, 2, none⟩ = some t ∧ w'.cell? ⟨P, 3, none⟩ = some p ∧ w'.cell? ⟨P, 4, none⟩ = some i ∧ w'.cell? ⟨P, 5, none⟩ = some b :=
  ⟨hm.cell _ _ (by simp [ipCells]), hm.cell _ _ (by simp [ipCells]), hm.cell _ _ (by simp [ipCells]), hm.cell _ _ (by simp [ipCells]), hm.cell _ _ (by simp [ipCells]), hm.cell _ _ (by simp [ipCells])⟩
theorem ipr_frees {w w' : World} {r P : Nat} {s d t p i b : Value} (hm : MineR w r (ipCells P s d t p i b) w') : w'.frozen? ⟨P, 0, none⟩ = false ∧ w'.frozen? ⟨P, 1, none⟩ = false ∧ w'.frozen? ⟨P, 2, none⟩ = false ∧ w'.frozen? ⟨P, 3, none⟩ = false ∧ w'.frozen? ⟨P, 4, none⟩ = false ∧ w'.frozen? ⟨P, 5, none⟩ = false :=
  ⟨hm.free ⟨P, 0, none⟩ s (by simp [ipCells]), hm.free ⟨P, 1, none⟩ d (by simp [ipCells]), hm.free ⟨P, 2, none⟩ t (by simp [ipCells]), hm.free ⟨P, 3, none⟩ p (by simp [ipCells]), hm.free ⟨P, 4, none⟩ i (by simp [ipCells]), hm.free ⟨P, 5, none⟩ b (by simp [ipCells])⟩
theorem ipr_set0 {w a : World} {r E C : Nat} {s d t p i b : Value} (x : Value) (h : MineR w r (zeroIps E ++ ipCells C s d t p i b) a) (hne : E ≠ C) : MineR w r (zeroIps E ++ ipCells C x d t p i b) (a.setCell ⟨C, 0, none⟩ x) := by
  have h1 := h.set ⟨C, 0, none⟩ s x (by simp [ipCells])
  have e : ((zeroIps E ++ ipCells C s d t p i b).map fun y => (y.1, if (⟨C, 0, none⟩ : Addr) = y.1 then x else y.2)) = zeroIps E ++ ipCells C x d t p i b := by simp [zeroIps, ipCells, Ne.symm hne]
  rw [e] at h1
  exact h1
theorem ipr_set2 {w a : World} {r E C : Nat} {s d t p i b : Value} (x : Value) (h : MineR w r (zeroIps E ++ ipCells C s d t p i b) a) (hne : E ≠ C) : MineR w r (zeroIps E ++ ipCells C s d x p i b) (a.setCell ⟨C, 2, none⟩ x) := by
  have h1 := h.set ⟨C, 2, none⟩ t x (by simp [ipCells])
  have e : ((zeroIps E ++ ipCells C s d t p i b).map fun y => (y.1, if (⟨C, 2, none⟩ : Addr) = y.1 then x else y.2)) = zeroIps E ++ ipCells C s d x p i b := by simp [zeroIps, ipCells, Ne.symm hne]
  rw [e] at h1
  exact h1
theorem ipr_set4 {w a : World} {r E C : Nat} {s d t p i b : Value} (x : Value) (h : MineR w r (zeroIps E ++ ipCells C s d t p i b) a) (hne : E ≠ C) : MineR w r (zeroIps E ++ ipCells C s d t p x b) (a.setCell ⟨C, 4, none⟩ x) := by
  have h1 := h.set ⟨C, 4, none⟩ i x (by simp [ipCells])
  have e : ((zeroIps E ++ ipCells C s d t p i b).map fun y => (y.1, if (⟨C, 4, none⟩ : Addr) = y.1 then x else y.2)) = zeroIps E ++ ipCells C s d t p x b := by simp [zeroIps, ipCells, Ne.symm hne]
  rw [e] at h1
  exact h1
theorem ipr_last {w a : World} {r E : Nat} {s d t p i b : Value} {ds : List (Addr × Value)} (h : MineR w r (zeroIps E ++ ds) a) : MineR w r [] ((((((a.setCell ⟨E, 0, none⟩ s).setCell ⟨E, 1, none⟩ d).setCell ⟨E, 2, none⟩ t).setCell ⟨E, 3, none⟩ p).setCell ⟨E, 4, none⟩ i).setCell ⟨E, 5, none⟩ b) := by
  have h1 := h.left.set ⟨E, 0, none⟩ _ s (by simp only [zeroIps, ipCells]; exact .head _)
  have h2 := h1.set ⟨E, 1, none⟩ _ d (by simp only [ipCells, List.map]; exact .tail _ (.head _))
  have h3 := h2.set ⟨E, 2, none⟩ _ t (by simp only [ipCells, List.map]; exact .tail _ (.tail _ (.head _)))
  have h4 := h3.set ⟨E, 3, none⟩ _ p (by simp only [ipCells, List.map]; exact .tail _ (.tail _ (.tail _ (.head _))))
  have h5 := h4.set ⟨E, 4, none⟩ _ i (by simp only [ipCells, List.map]; exact .tail _ (.tail _ (.tail _ (.tail _ (.head _)))))
  have h6 := h5.set ⟨E, 5, none⟩ _ b (by simp only [ipCells, List.map]; exact .tail _ (.tail _ (.tail _ (.tail _ (.tail _ (.head _))))))
  exact ⟨h6.grown, h6.rd, h6.low, by simp⟩

set_option maxRecDepth 100000 in
set_option maxHeartbeats 1000000 in
theorem ip_draw (r : Nat) (w : World) (h : RdOk w r) : Calls Try.prog 25 #[.pointer (some ⟨r, 0, none⟩)] w (IpDPost w r) := by
  have H0 := Lib.hid (MineR.one h (ip_new w (.int .i64 0) (.int .i64 0) (.int .i64 0) (.int .i64 0) (.int .i64 0) (.string ⟨#[]⟩) 25))
  clear h
  go_enter Try.func25, Try.ntmps25
  go_wp2_with fail
  refine (below_any _ _ _ H0.out.rd (by omega)).mono ?_
  rintro e w1 ⟨q, q0, q1, rfl, hg, hr⟩
  have hq : q ≤ 2 := by rw [if_neg (by omega)] at q1; omega
  have hwr : IntKind.i64.wrap (167772162 + q) = 167772162 + q := IntWalk.i64_in _ (by omega)
  have H1 := Lib.hid (H0.out.kept hg hr)
  clear hg hr H0 q1
  go_wp2_with fail
  refine (below_any _ _ _ H1.out.rd (by omega)).mono ?_
  rintro e w2 ⟨k, k0, k1, rfl, hg, hr⟩
  have H2 := Lib.hid (H1.out.kept hg hr)
  clear hg hr H1 k1
  go_wp2_with fail
  refine (bytes_any _ 9 _ H2.out.rd (by omega)).mono ?_
  rintro e w3 ⟨b, hb, rfl, hg, hr⟩
  have H3a := Lib.hid (H2.out.kept hg hr)
  clear hg hr H2
  have hEC : w.heap.size < w3.heap.size := cell_in (ipr_facts H3a.out).1
  have H3 := Lib.hid (H3a.out.new (ip_new w3 (.int .i64 167772161) (.int .i64 (167772162 + q)) (.int .i64 64) (.int .i64 6) (.int .i64 k) (.string ⟨b.toArray⟩) 25))
  clear H3a
  go_wp2_with fail
  refine (below_any _ _ _ H3.out.rd (by omega)).mono ?_
  rintro e w5 ⟨u, u0, u1, rfl, hg, hr⟩
  have H5 := Lib.hid (H3.out.kept hg hr)
  clear hg hr H3 u1
  by_cases h17 : u = 17
  · subst h17
    go_wp2_with fail
    refine (off_any _ _ _ _ H5.out.rd (by omega) (by omega) (by omega)).mono ?_
    rintro e w6 ⟨x, hx, rfl, hg, hr⟩
    have H6 := Lib.hid (H5.out.kept hg hr)
    clear hg hr H5 hx
    obtain ⟨c0, c1, c2, c3, c4, c5⟩ := ipr_facts H6.out.right
    obtain ⟨z0, z1, z2, z3, z4, z5⟩ := ipr_frees H6.out.right
    obtain ⟨e0, e1, e2, e3, e4, e5⟩ := ipr_facts H6.out.left
    obtain ⟨y0, y1, y2, y3, y4, y5⟩ := ipr_frees H6.out.left
    have HY := Lib.hid (ipr_set0 (.int .i64 x) H6.out (Nat.ne_of_lt hEC))
    have HZ := Lib.hid (ipr_last (s := .int .i64 x) (d := .int .i64 (167772162 + q)) (t := .int .i64 64) (p := .int .i64 6) (i := .int .i64 k) (b := .string ⟨List.toArray b⟩) HY.out)
    go_wp2_with fail
    exact bodyPost_ret (v := ipV x (167772162 + q) 64 6 k b) (by simp [results, Try.results25, go_sem, e0, e1, e2, e3, e4, e5]) rfl ⟨x, (167772162 + q), 64, 6, k, b, rfl, HZ.out.grown, HZ.out.rd⟩
  · by_cases h18 : u = 18
    · subst h18
      clear h17
      go_wp2_with fail
      refine (off_any _ _ _ _ H5.out.rd (by omega) (by omega) (by omega)).mono ?_
      rintro e w6 ⟨x, hx, rfl, hg, hr⟩
      have H6 := Lib.hid (H5.out.kept hg hr)
      clear hg hr H5 hx
      obtain ⟨c0, c1, c2, c3, c4, c5⟩ := ipr_facts H6.out.right
      obtain ⟨z0, z1, z2, z3, z4, z5⟩ := ipr_frees H6.out.right
      obtain ⟨e0, e1, e2, e3, e4, e5⟩ := ipr_facts H6.out.left
      obtain ⟨y0, y1, y2, y3, y4, y5⟩ := ipr_frees H6.out.left
      have HY := Lib.hid (ipr_set2 (.int .i64 x) H6.out (Nat.ne_of_lt hEC))
      have HZ := Lib.hid (ipr_last (s := .int .i64 167772161) (d := .int .i64 (167772162 + q)) (t := .int .i64 x) (p := .int .i64 6) (i := .int .i64 k) (b := .string ⟨List.toArray b⟩) HY.out)
      go_wp2_with fail
      exact bodyPost_ret (v := ipV 167772161 (167772162 + q) x 6 k b) (by simp [results, Try.results25, go_sem, e0, e1, e2, e3, e4, e5]) rfl ⟨167772161, (167772162 + q), x, 6, k, b, rfl, HZ.out.grown, HZ.out.rd⟩
    · by_cases h19 : u = 19
      · subst h19
        clear h17 h18
        go_wp2_with fail
        refine (off_any _ _ _ _ H5.out.rd (by omega) (by omega) (by omega)).mono ?_
        rintro e w6 ⟨x, hx, rfl, hg, hr⟩
        have H6 := Lib.hid (H5.out.kept hg hr)
        clear hg hr H5 hx
        obtain ⟨c0, c1, c2, c3, c4, c5⟩ := ipr_facts H6.out.right
        obtain ⟨z0, z1, z2, z3, z4, z5⟩ := ipr_frees H6.out.right
        obtain ⟨e0, e1, e2, e3, e4, e5⟩ := ipr_facts H6.out.left
        obtain ⟨y0, y1, y2, y3, y4, y5⟩ := ipr_frees H6.out.left
        have HY := Lib.hid (ipr_set4 (.int .i64 x) H6.out (Nat.ne_of_lt hEC))
        have HZ := Lib.hid (ipr_last (s := .int .i64 167772161) (d := .int .i64 (167772162 + q)) (t := .int .i64 64) (p := .int .i64 6) (i := .int .i64 x) (b := .string ⟨List.toArray b⟩) HY.out)
        go_wp2_with fail
        exact bodyPost_ret (v := ipV 167772161 (167772162 + q) 64 6 x b) (by simp [results, Try.results25, go_sem, e0, e1, e2, e3, e4, e5]) rfl ⟨167772161, (167772162 + q), 64, 6, x, b, rfl, HZ.out.grown, HZ.out.rd⟩
      · have HY := Lib.hid H5.out
        obtain ⟨c0, c1, c2, c3, c4, c5⟩ := ipr_facts H5.out.right
        obtain ⟨z0, z1, z2, z3, z4, z5⟩ := ipr_frees H5.out.right
        obtain ⟨e0, e1, e2, e3, e4, e5⟩ := ipr_facts H5.out.left
        obtain ⟨y0, y1, y2, y3, y4, y5⟩ := ipr_frees H5.out.left
        have HZ := Lib.hid (ipr_last (s := .int .i64 167772161) (d := .int .i64 (167772162 + q)) (t := .int .i64 64) (p := .int .i64 6) (i := .int .i64 k) (b := .string ⟨List.toArray b⟩) HY.out)
        go_wp2_with fail
        exact bodyPost_ret (v := ipV 167772161 (167772162 + q) 64 6 k b) (by simp [results, Try.results25, go_sem, e0, e1, e2, e3, e4, e5]) rfl ⟨167772161, (167772162 + q), 64, 6, k, b, rfl, HZ.out.grown, HZ.out.rd⟩

def DrawIPost (w : World) (e : Ending) (w' : World) : Prop :=
  ∃ (s d t p i : Int) (b : List UInt8), e = .returned (ipV s d t p i b) ∧ w.grownBy w' none

set_option maxRecDepth 100000 in
theorem draw_ip_ok (a : Option Addr) (n c : Nat) (w : World) (h : CodeIn w a n) : Calls Try.prog 21 #[.slice a n c] w (DrawIPost w) := by
  have HA := Lib.hid (h.kept (World.grownBy_alloc w (.cells #[.int .i64 0, .int .i64 0, .int .i64 0, .int .i64 0, .int .i64 0, .string ⟨#[]⟩] 25) none))
  have HR := Lib.hid (ip_new w (.int .i64 0) (.int .i64 0) (.int .i64 0) (.int .i64 0) (.int .i64 0) (.string ⟨#[]⟩) 25)
  clear h
  go_enter Try.func21, Try.ntmps21
  go_wp2_with fail
  refine (open_any _ _ _ _ HA.out).mono ?_
  rintro e w1 ⟨rfl, hg, hr⟩
  have h1 := MineE.start HR.out hg hr
  rw [alloc_size] at h1
  have H1 := Lib.hid h1
  clear hg hr HA h1
  go_wp2_with fail
  refine (ip_draw _ _ H1.out.rd).mono ?_
  rintro e w2 ⟨s, d, t, p, i, b, rfl, hg, hr⟩
  have H2 := Lib.hid (H1.out.kept hg hr)
  clear hg hr H1
  obtain ⟨e0, e1, e2, e3, e4, e5⟩ := ip_facts H2.out.mine
  obtain ⟨y0, y1, y2, y3, y4, y5⟩ := ip_frees H2.out.mine
  have HZ := Lib.hid (res6_grown (.int .i64 s) (.int .i64 d) (.int .i64 t) (.int .i64 p) (.int .i64 i) (.string ⟨b.toArray⟩) H2.out.grown (Nat.le_refl _))
  go_wp2_with fail
  exact bodyPost_ret (v := ipV s d t p i b) (by simp [results, Try.results21, go_sem, e0, e1, e2, e3, e4, e5]) rfl ⟨s, d, t, p, i, b, rfl, HZ.out⟩

set_option maxRecDepth 100000 in
theorem draw_ip (a : Option Addr) (n c : Nat) (w : World) (h : CodeIn w a n) : Calls Try.prog 9 #[.slice a n c] w (DrawIPost w) := by
  have HA := Lib.hid (h.kept (World.grownBy_alloc w (.cells #[.int .i64 0, .int .i64 0, .int .i64 0, .int .i64 0, .int .i64 0, .string ⟨#[]⟩] 25) none))
  have HR := Lib.hid (ip_new w (.int .i64 0) (.int .i64 0) (.int .i64 0) (.int .i64 0) (.int .i64 0) (.string ⟨#[]⟩) 25)
  clear h
  go_enter Try.func9, Try.ntmps9
  go_wp2_with fail
  refine (draw_ip_ok _ _ _ _ HA.out).mono ?_
  rintro e w1 ⟨s, d, t, p, i, b, rfl, hg⟩
  have h1 := HR.out.kept hg
  obtain ⟨e0, e1, e2, e3, e4, e5⟩ := ip_facts h1
  obtain ⟨y0, y1, y2, y3, y4, y5⟩ := ip_frees h1
  have HZ := Lib.hid (res6_grown (.int .i64 s) (.int .i64 d) (.int .i64 t) (.int .i64 p) (.int .i64 i) (.string ⟨b.toArray⟩) h1.grown (Nat.le_refl _))
  clear hg h1
  go_wp2_with fail
  exact bodyPost_ret (v := ipV s d t p i b) (by simp [results, Try.results9, go_sem, e0, e1, e2, e3, e4, e5]) rfl ⟨s, d, t, p, i, b, rfl, HZ.out⟩

theorem ipL_len (s d t p i : Int) (b : List UInt8) : (ipL s d t p i b).length ≤ 416 := by
  unfold ipL
  split
  · rename_i h
    have h1 := ipHead_len s d t p i (20 + b.length) (ipSum s d t p i (20 + b.length))
    have h2 := h.2.2.2.2.2.2.2.2.2.2
    unfold ipT
    rw [List.length_append]
    omega
  · simp

set_option maxRecDepth 100000 in
set_option maxHeartbeats 1000000 in
theorem draw_rip (a : Option Addr) (n c : Nat) (w : World) (h : CodeIn w a n) : Calls Try.prog 11 #[.slice a n c] w (DrawTPost w 424) := by
  have HA := Lib.hid h
  clear h
  go_enter Try.func11, Try.ntmps11
  go_wp2_with fail
  refine (open_any _ _ _ _ HA.out).mono ?_
  rintro e w1 ⟨rfl, hg, hr⟩
  have H1 := Lib.hid (And.intro hr hg)
  clear hg hr
  go_wp2_with fail
  refine (ip_draw _ _ H1.out.1).mono ?_
  rintro e w2 ⟨s, d, t, p, i, b, rfl, hg, hr⟩
  have H2 := Lib.hid (And.intro hr (grownBy_new H1.out.2 hg (Nat.le_refl _)))
  clear hg hr H1
  go_wp2_with fail
  refine (ip_spec _ _ _ _ _ _ _).mono ?_
  rintro e w3 ⟨rfl, hg⟩
  have hs := ipL_len s d t p i b
  generalize ipL s d t p i b = s at *
  have H3 := Lib.hid (And.intro (H2.out.1.kept hg (by simp) (by simp)) (grownBy_trans H2.out.2 hg))
  clear hg H2
  go_wp2_with fail
  refine (once_any _ _ _ H3.out.1 (by omega) (by omega)).mono ?_
  rintro e w4 ⟨d, rfl, hg, hr⟩
  have H4 := Lib.hid (And.intro hr (grownBy_new H3.out.2 hg (Nat.le_refl _)))
  clear hg hr H3
  cases d
  · go_wp2_with fail
    refine (hurt_any _ s _ H4.out.1 (by omega)).mono ?_
    rintro e w5 ⟨m, hm, rfl, hg, hr⟩
    have H5 := Lib.hid (grownBy_new H4.out.2 hg (Nat.le_refl _))
    clear hg hr
    go_wp2_with fail
    go_ret
    exact ⟨m, by omega, rfl, H5.out⟩
  · go_wp2_with fail
    refine (bytes_any _ 4 _ H4.out.1 (by omega)).mono ?_
    rintro e w5 ⟨m, hm, rfl, hg, hr⟩
    have H5 := Lib.hid (grownBy_new H4.out.2 hg (Nat.le_refl _))
    clear hg hr
    have hkl : ¬ 9223372036854775807 < s.length + m.length := by omega
    go_wp2_with fail
    go_ret
    exact ⟨s ++ m, by rw [List.length_append]; omega, ret_ba (by rw [ba_append]), H5.out⟩

end Go.Proofs.Ytcbaenndkljlpaa
