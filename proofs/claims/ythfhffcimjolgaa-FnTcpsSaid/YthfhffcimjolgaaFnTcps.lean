/- For every code the law FnTcps answers true and leaves its argument as it was; no condition. -/
import Derived.Test.YthfhffcimjolgaaRows
import Derived.Test.YthfhffcimjolgaaDraw
import Derived.Test.YthfhffcimjolgaaTcX
import Derived.Test.YthfhffcimjolgaaTcM
import Derived.Test.YthfhffcimjolgaaTcN
import Derived.Test.YthfhffcimjolgaaTcO
import Derived.WalkKit
import Derived.ProofKit
import Derived.OpenShut
import Derived.ShutString
import Derived.ChangeOld
import Derived.Below
import Derived.Lib.SmallJoins
namespace Go.Proofs.Ythfhffcimjolgaa.fnTcps
open Go.ChangeShapes Go.WideShapes Go.ChangeAt Go.RowKit Go.Joins
open Go.ChangeMaps (open_string shut_string)
set_option linter.unusedVariables false

theorem own : ownKnob Try.prog.godebug = none := by kernel_rfl
theorem laidOut : laidOutB Try.prog = true := by kernel_rfl


def IsRow (k : IntKind) (w : World) (a : Option Addr) (len cap : Nat) (zs : List Int) : Prop :=
  (a = none ∧ len = 0 ∧ cap = 0 ∧ zs = []) ∨
  ∃ x, a = some x ∧ len ≤ cap ∧ cap ≤ maxLen ∧ zs.length = cap ∧ (∀ i, i < zs.length → w.cell? (x.add i) = some (.int k (zs.getD i 0))) ∧ ∀ n ∈ zs, (Lit.int k n).wf = true

set_option maxRecDepth 100000 in
set_option maxHeartbeats 8000000 in
theorem walk (a0 : Option Addr) (len0 cap0 : Nat) (z0 : List Int) (w : World) (w0 : IsRow .u8 w a0 len0 cap0 z0) :
    Calls Try.prog 3 #[.slice a0 len0 cap0] w fun e w' => e = .returned (.bool true) ∧ Below w.heap.size w w' := by
-----
  have HC := Lib.hid (code_of w0)
  clear w0
  go_enter Try.func3, Try.ntmps3
  go_wp2_with fail
  refine (big_any _ _ _ _).mono ?_
  rintro e w' ⟨rfl, rfl⟩
  by_cases hb : 1048576 < len0
  · rw [decide_eq_true hb]
    go_wp2_with fail
    go_ret
    exact ⟨rfl, below_new (World.grownBy.refl _ _)⟩
  · rw [decide_eq_false hb]
    clear hb
    go_wp2_with fail
    refine (draw_tcpb _ _ _ _ HC.out).mono ?_
    rintro e w1 ⟨b, f, o, s, k, g, n, a, c, l, d, rfl, hl, hg, hr⟩
    have HL := Lib.hid hl
    have hlm : l.length ≤ maxLen := by unfold maxLen; omega
    have hlm2 : l.length ≤ 1048576 := by omega
    clear hl
    have ha := World.grownBy_alloc w1 (.cells #[.int .i64 f, .int .i64 o, .int .i64 s, .int .i64 k, .int .i64 g, .int .i64 n, .slice a l.length c, .string ⟨d.toArray⟩] 26) none
    have H0 := Lib.hid (And.intro (grownBy_trans hg ha) (And.intro (Bx.new w1 26 #[.int .i64 f, .int .i64 o, .int .i64 s, .int .i64 k, .int .i64 g, .int .i64 n, .slice a l.length c, .string ⟨d.toArray⟩]) (hr.kept ha)))
    clear hg hr ha
    go_upto_region 4 with fail
    generalize w1.alloc (.cells #[.int .i64 f, .int .i64 o, .int .i64 s, .int .i64 k, .int .i64 g, .int .i64 n, .slice a l.length c, .string ⟨d.toArray⟩] 26) = w2 at *
    generalize w1.heap.size = B5 at *
    go_wp2_with (refine wpList_load_row rfl 26 _ rfl B5 rfl 26 _ (0, 0) _ H0.out.2.1 Try.underlying26 rfl info_t ?_)
    refine (tcp_impl 167772161 b f o s k g n a c l d w2 H0.out.2.2).mono ?_
    rintro e w3 ⟨rfl, hg⟩
    have H1 := Lib.hid (And.intro (grownBy_trans H0.out.1 hg) (And.intro (H0.out.2.1.keep hg) (H0.out.2.2.kept hg)))
    clear H0 hg
    obtain ⟨Q, hQ⟩ : ∃ Q, Q = tcpL 167772161 b f o s k g n l d := ⟨_, rfl⟩
    rw [← hQ]
    have HQ := Lib.hid hQ
    clear hQ
    go_wp2_with fail
    refine (draw_read _ _ _ _ (HC.out.kept H1.out.1)).mono ?_
    rintro e w4 ⟨b2, u, rfl, hg, hb2, hul, hfl⟩
    have HU := Lib.hid (And.intro hb2 (And.intro hul hfl))
    clear hb2 hul hfl
    have H2 := Lib.hid (And.intro (grownBy_trans H1.out.1 hg) (And.intro (H1.out.2.1.keep hg) (H1.out.2.2.kept hg)))
    clear H1 hg
    go_wp2_with fail
    refine (read_I 167772161 b2 u w4 (by omega) HU.out.1 (by have := HU.out.2.1; omega)).mono ?_
    intro e w5 ht
    obtain ⟨xp, xc, rfl, hr1, hg⟩ := tr_val ht
    clear ht
    have HX := Lib.hid (fun h => tr_ok (a := 167772161) (b := b2) (u := u) h)
    have HS := Lib.hid (rd_same (a := 167772161) (b := b2) (u := u) HU.out.2.2)
    have HN := Lib.hid (rd_len (a := 167772161) (b := b2) (g := fG u) (u := u))
    obtain ⟨R, hR⟩ : ∃ R, R = rdT 167772161 b2 (fG u) u := ⟨_, rfl⟩
    rw [← hR] at HX HS HN hr1
    rw [← hR]
    have HR := Lib.hid hR
    clear hR
    obtain ⟨xf, hxf⟩ : ∃ q, q = xI R (fF u) := ⟨_, rfl⟩
    rw [← hxf] at HX
    try rw [← hxf]
    try rw [← hxf] at hr1
    try rw [← hxf] at HN
    obtain ⟨xo, hxo⟩ : ∃ q, q = xI R (fO u) := ⟨_, rfl⟩
    rw [← hxo] at HX
    try rw [← hxo]
    try rw [← hxo] at hr1
    try rw [← hxo] at HN
    obtain ⟨xs, hxs⟩ : ∃ q, q = xI R (fS u) := ⟨_, rfl⟩
    rw [← hxs] at HX
    try rw [← hxs]
    try rw [← hxs] at hr1
    try rw [← hxs] at HN
    obtain ⟨xk, hxk⟩ : ∃ q, q = xI R (fK u) := ⟨_, rfl⟩
    rw [← hxk] at HX
    try rw [← hxk]
    try rw [← hxk] at hr1
    try rw [← hxk] at HN
    obtain ⟨xg, hxg⟩ : ∃ q, q = xI R (fG u) := ⟨_, rfl⟩
    rw [← hxg] at HX
    try rw [← hxg]
    try rw [← hxg] at hr1
    try rw [← hxg] at HN
    obtain ⟨xn, hxn⟩ : ∃ q, q = xI R (fN u) := ⟨_, rfl⟩
    rw [← hxn] at HX
    try rw [← hxn]
    try rw [← hxn] at hr1
    try rw [← hxn] at HN
    obtain ⟨xl, hxl⟩ : ∃ q, q = R.getD [] := ⟨_, rfl⟩
    rw [← hxl] at HX
    try rw [← hxl]
    try rw [← hxl] at hr1
    try rw [← hxl] at HN
    obtain ⟨xd, hxd⟩ : ∃ q, q = xD R (u.drop (hdL u)) := ⟨_, rfl⟩
    rw [← hxd] at HX
    try rw [← hxd]
    try rw [← hxd] at hr1
    try rw [← hxd] at HN
    obtain ⟨xb, hxb⟩ : ∃ q, q = R.isSome := ⟨_, rfl⟩
    rw [← hxb] at HX
    try rw [← hxb]
    try rw [← hxb] at hr1
    try rw [← hxb] at HN
    have HE := Lib.hid (And.intro hxf (And.intro hxo (And.intro hxs (And.intro hxk (And.intro hxg (And.intro hxn (And.intro hxl (And.intro hxd hxb))))))))
    clear hxf hxo hxs hxk hxg hxn hxl hxd hxb
    have ha := World.grownBy_alloc w5 (.cells #[.int .i64 xf, .int .i64 xo, .int .i64 xs, .int .i64 xk, .int .i64 xg, .int .i64 xn, .slice xp xl.length xc, .string ⟨xd.toArray⟩] 26) none
    have H3 := Lib.hid (And.intro (grownBy_trans H2.out.1 (grownBy_trans hg ha)) (And.intro (H2.out.2.1.keep (grownBy_trans hg ha)) (And.intro (H2.out.2.2.kept (grownBy_trans hg ha)) (And.intro (Bx.new w5 26 #[.int .i64 xf, .int .i64 xo, .int .i64 xs, .int .i64 xk, .int .i64 xg, .int .i64 xn, .slice xp xl.length xc, .string ⟨xd.toArray⟩]) (hr1.kept ha)))))
    clear H2 hg hr1 ha
    go_upto_region 7 with fail
    generalize w5.alloc (.cells #[.int .i64 xf, .int .i64 xo, .int .i64 xs, .int .i64 xk, .int .i64 xg, .int .i64 xn, .slice xp xl.length xc, .string ⟨xd.toArray⟩] 26) = w6 at *
    generalize w5.heap.size = B10 at *
    go_wp2_with fail
    have hs : Calls Try.prog 9 #[.int .i64 167772161, .int .i64 b2, .string ⟨u.toArray⟩] w6 (TrPost w6 u (fG u % 64) (rdT 167772161 b2 (fG u % 64) u)) := read_S 167772161 b2 ⟨u.toArray⟩ w6 (by omega) HU.out.1 (by have := HU.out.2.1; have e := sz_list ⟨u.toArray⟩; have e2 : (⟨u.toArray⟩ : ByteArray).data.toList = u := rfl; rw [e2] at e; omega)
    rw [HR.out] at HS
    rw [HS.out.1, ← HR.out] at hs
    refine hs.mono ?_
    clear hs
    intro e w7 ht
    obtain ⟨yp, yc, rfl, hr1, hg⟩ := tr_val ht
    clear ht
    have HS2 := Lib.hid HS.out.2
    rw [← HR.out] at HS2
    rw [HS2.out]
    rw [← HE.out.2.2.2.2.2.2.1] at hr1
    rw [← HE.out.1, ← HE.out.2.1, ← HE.out.2.2.1, ← HE.out.2.2.2.1, ← HE.out.2.2.2.2.1, ← HE.out.2.2.2.2.2.1, ← HE.out.2.2.2.2.2.2.1, ← HE.out.2.2.2.2.2.2.2.1, ← HE.out.2.2.2.2.2.2.2.2]
    have ha := World.grownBy_alloc w7 (.cells #[.int .i64 xf, .int .i64 xo, .int .i64 xs, .int .i64 xk, .int .i64 xg, .int .i64 xn, .slice yp xl.length yc, .string ⟨xd.toArray⟩] 26) none
    have H4 := Lib.hid (And.intro (grownBy_trans H3.out.1 (grownBy_trans hg ha)) (And.intro (H3.out.2.1.keep (grownBy_trans hg ha)) (And.intro (H3.out.2.2.1.kept (grownBy_trans hg ha)) (And.intro (H3.out.2.2.2.1.keep (grownBy_trans hg ha)) (And.intro (H3.out.2.2.2.2.kept (grownBy_trans hg ha)) (And.intro (Bx.new w7 26 #[.int .i64 xf, .int .i64 xo, .int .i64 xs, .int .i64 xk, .int .i64 xg, .int .i64 xn, .slice yp xl.length yc, .string ⟨xd.toArray⟩]) (hr1.kept ha)))))))
    clear H3 hg hr1 ha
    go_upto_region 8 with fail
    generalize w7.alloc (.cells #[.int .i64 xf, .int .i64 xo, .int .i64 xs, .int .i64 xk, .int .i64 xg, .int .i64 xn, .slice yp xl.length yc, .string ⟨xd.toArray⟩] 26) = w8 at *
    generalize w7.heap.size = B12 at *
    go_wp2_with fail
    refine (draw_tok _ _ _ _ (HC.out.kept H4.out.1)).mono ?_
    rintro e w9 ⟨zf, zo, zs, zk, zg, zn, za, zc, zl, zd, rfl, hg, hr1, hzl⟩
    have hzm : zl.length ≤ maxLen := by unfold maxLen; omega
    have ha := World.grownBy_alloc w9 (.cells #[.int .i64 zf, .int .i64 zo, .int .i64 zs, .int .i64 zk, .int .i64 zg, .int .i64 zn, .slice za zl.length zc, .string ⟨zd.toArray⟩] 26) none
    have H5 := Lib.hid (And.intro (grownBy_trans H4.out.1 (grownBy_trans hg ha)) (And.intro (H4.out.2.1.keep (grownBy_trans hg ha)) (And.intro (H4.out.2.2.1.kept (grownBy_trans hg ha)) (And.intro (H4.out.2.2.2.1.keep (grownBy_trans hg ha)) (And.intro (H4.out.2.2.2.2.1.kept (grownBy_trans hg ha)) (And.intro (H4.out.2.2.2.2.2.1.keep (grownBy_trans hg ha)) (And.intro (H4.out.2.2.2.2.2.2.kept (grownBy_trans hg ha)) (And.intro (Bx.new w9 26 #[.int .i64 zf, .int .i64 zo, .int .i64 zs, .int .i64 zk, .int .i64 zg, .int .i64 zn, .slice za zl.length zc, .string ⟨zd.toArray⟩]) (hr1.kept ha)))))))))
    clear H4 hg hr1 ha
    go_upto_region 9 with fail
    generalize w9.alloc (.cells #[.int .i64 zf, .int .i64 zo, .int .i64 zs, .int .i64 zk, .int .i64 zg, .int .i64 zn, .slice za zl.length zc, .string ⟨zd.toArray⟩] 26) = w10 at *
    generalize w9.heap.size = B14 at *
    have p0 := H5.out.2.1.c 0 (x := .int .i64 f) rfl
    have p1 := H5.out.2.1.c 1 (x := .int .i64 o) rfl
    have p2 := H5.out.2.1.c 2 (x := .int .i64 s) rfl
    have p3 := H5.out.2.1.c 3 (x := .int .i64 k) rfl
    have p4 := H5.out.2.1.c 4 (x := .int .i64 g) rfl
    have p5 := H5.out.2.1.c 5 (x := .int .i64 n) rfl
    have p6 := H5.out.2.1.c 6 (x := .slice a l.length c) rfl
    have p7 := H5.out.2.1.c 7 (x := .string ⟨d.toArray⟩) rfl
    have p8 := H5.out.2.2.2.1.c 0 (x := .int .i64 xf) rfl
    have p9 := H5.out.2.2.2.1.c 1 (x := .int .i64 xo) rfl
    have p10 := H5.out.2.2.2.1.c 2 (x := .int .i64 xs) rfl
    have p11 := H5.out.2.2.2.1.c 3 (x := .int .i64 xk) rfl
    have p12 := H5.out.2.2.2.1.c 4 (x := .int .i64 xg) rfl
    have p13 := H5.out.2.2.2.1.c 5 (x := .int .i64 xn) rfl
    have p14 := H5.out.2.2.2.1.c 6 (x := .slice xp xl.length xc) rfl
    have p15 := H5.out.2.2.2.1.c 7 (x := .string ⟨xd.toArray⟩) rfl
    have p16 := H5.out.2.2.2.2.2.1.c 0 (x := .int .i64 xf) rfl
    have p17 := H5.out.2.2.2.2.2.1.c 1 (x := .int .i64 xo) rfl
    have p18 := H5.out.2.2.2.2.2.1.c 2 (x := .int .i64 xs) rfl
    have p19 := H5.out.2.2.2.2.2.1.c 3 (x := .int .i64 xk) rfl
    have p20 := H5.out.2.2.2.2.2.1.c 4 (x := .int .i64 xg) rfl
    have p21 := H5.out.2.2.2.2.2.1.c 5 (x := .int .i64 xn) rfl
    have p22 := H5.out.2.2.2.2.2.1.c 6 (x := .slice yp xl.length yc) rfl
    have p23 := H5.out.2.2.2.2.2.1.c 7 (x := .string ⟨xd.toArray⟩) rfl
    have p24 := H5.out.2.2.2.2.2.2.2.1.c 0 (x := .int .i64 zf) rfl
    have p25 := H5.out.2.2.2.2.2.2.2.1.c 1 (x := .int .i64 zo) rfl
    have p26 := H5.out.2.2.2.2.2.2.2.1.c 2 (x := .int .i64 zs) rfl
    have p27 := H5.out.2.2.2.2.2.2.2.1.c 3 (x := .int .i64 zk) rfl
    have p28 := H5.out.2.2.2.2.2.2.2.1.c 4 (x := .int .i64 zg) rfl
    have p29 := H5.out.2.2.2.2.2.2.2.1.c 5 (x := .int .i64 zn) rfl
    have p30 := H5.out.2.2.2.2.2.2.2.1.c 6 (x := .slice za zl.length zc) rfl
    have p31 := H5.out.2.2.2.2.2.2.2.1.c 7 (x := .string ⟨zd.toArray⟩) rfl
    have hxl3 : xl.length ≤ 1048576 := by have := HN.out; omega
    refine wp_region_held_drew (S := fun w' => w'.cell? ⟨B5, 0, none⟩ = some (.int .i64 f) ∧ w'.cell? ⟨B5, 1, none⟩ = some (.int .i64 o) ∧ w'.cell? ⟨B5, 2, none⟩ = some (.int .i64 s) ∧ w'.cell? ⟨B5, 3, none⟩ = some (.int .i64 k) ∧ w'.cell? ⟨B5, 4, none⟩ = some (.int .i64 g) ∧ w'.cell? ⟨B5, 5, none⟩ = some (.int .i64 n) ∧ w'.cell? ⟨B5, 6, none⟩ = some (.slice a l.length c) ∧ w'.cell? ⟨B5, 7, none⟩ = some (.string ⟨d.toArray⟩) ∧ w'.cell? ⟨B10, 0, none⟩ = some (.int .i64 xf) ∧ w'.cell? ⟨B10, 1, none⟩ = some (.int .i64 xo) ∧ w'.cell? ⟨B10, 2, none⟩ = some (.int .i64 xs) ∧ w'.cell? ⟨B10, 3, none⟩ = some (.int .i64 xk) ∧ w'.cell? ⟨B10, 4, none⟩ = some (.int .i64 xg) ∧ w'.cell? ⟨B10, 5, none⟩ = some (.int .i64 xn) ∧ w'.cell? ⟨B10, 6, none⟩ = some (.slice xp xl.length xc) ∧ w'.cell? ⟨B10, 7, none⟩ = some (.string ⟨xd.toArray⟩) ∧ w'.cell? ⟨B12, 0, none⟩ = some (.int .i64 xf) ∧ w'.cell? ⟨B12, 1, none⟩ = some (.int .i64 xo) ∧ w'.cell? ⟨B12, 2, none⟩ = some (.int .i64 xs) ∧ w'.cell? ⟨B12, 3, none⟩ = some (.int .i64 xk) ∧ w'.cell? ⟨B12, 4, none⟩ = some (.int .i64 xg) ∧ w'.cell? ⟨B12, 5, none⟩ = some (.int .i64 xn) ∧ w'.cell? ⟨B12, 6, none⟩ = some (.slice yp xl.length yc) ∧ w'.cell? ⟨B12, 7, none⟩ = some (.string ⟨xd.toArray⟩) ∧ w'.cell? ⟨B14, 0, none⟩ = some (.int .i64 zf) ∧ w'.cell? ⟨B14, 1, none⟩ = some (.int .i64 zo) ∧ w'.cell? ⟨B14, 2, none⟩ = some (.int .i64 zs) ∧ w'.cell? ⟨B14, 3, none⟩ = some (.int .i64 zk) ∧ w'.cell? ⟨B14, 4, none⟩ = some (.int .i64 zg) ∧ w'.cell? ⟨B14, 5, none⟩ = some (.int .i64 zn) ∧ w'.cell? ⟨B14, 6, none⟩ = some (.slice za zl.length zc) ∧ w'.cell? ⟨B14, 7, none⟩ = some (.string ⟨zd.toArray⟩) ∧ w10.grownBy w' none) (by kernel_rfl) (by have hd : w10.grownBy w10.drew none := ⟨rfl, rfl, rfl, Nat.le_refl _, fun _ _ _ => rfl⟩; exact ⟨(hd).cell p0 (by simp), (hd).cell p1 (by simp), (hd).cell p2 (by simp), (hd).cell p3 (by simp), (hd).cell p4 (by simp), (hd).cell p5 (by simp), (hd).cell p6 (by simp), (hd).cell p7 (by simp), (hd).cell p8 (by simp), (hd).cell p9 (by simp), (hd).cell p10 (by simp), (hd).cell p11 (by simp), (hd).cell p12 (by simp), (hd).cell p13 (by simp), (hd).cell p14 (by simp), (hd).cell p15 (by simp), (hd).cell p16 (by simp), (hd).cell p17 (by simp), (hd).cell p18 (by simp), (hd).cell p19 (by simp), (hd).cell p20 (by simp), (hd).cell p21 (by simp), (hd).cell p22 (by simp), (hd).cell p23 (by simp), (hd).cell p24 (by simp), (hd).cell p25 (by simp), (hd).cell p26 (by simp), (hd).cell p27 (by simp), (hd).cell p28 (by simp), (hd).cell p29 (by simp), (hd).cell p30 (by simp), (hd).cell p31 (by simp), hd⟩) (fun hS => ?_)
    refine wpAnyH_take (i := 0) (v := ?_) rfl (by kernel_rfl) (by kernel_rfl) (by kernel_rfl) (fun _ _ _ h => h) (Or.inl ⟨by kernel_rfl, ?_⟩) hS ?_
    rotate_left
    · intro w' hSw
      obtain ⟨g0, g1, g2, g3, g4, g5, g6, g7, g8, g9, g10, g11, g12, g13, g14, g15, g16, g17, g18, g19, g20, g21, g22, g23, g24, g25, g26, g27, g28, g29, g30, g31, _⟩ := hSw
      first | (go_simp; done) | (go_simp; with_reducible rfl)
    simp only [List.getElem_toArray, List.getElem_cons_zero, Act.put, List.setIfInBounds_toArray, List.set_cons_zero, List.set_cons_succ]
    refine wpAnyH_take (i := 1) (v := ?_) rfl (by kernel_rfl) (by kernel_rfl) (by kernel_rfl) (fun _ _ _ h => h) (Or.inl ⟨by kernel_rfl, ?_⟩) hS ?_
    rotate_left
    · intro w' hSw
      obtain ⟨g0, g1, g2, g3, g4, g5, g6, g7, g8, g9, g10, g11, g12, g13, g14, g15, g16, g17, g18, g19, g20, g21, g22, g23, g24, g25, g26, g27, g28, g29, g30, g31, _⟩ := hSw
      first | (go_simp; done) | (go_simp; with_reducible rfl)
    simp only [List.getElem_toArray, List.getElem_cons_zero, List.getElem_cons_succ, Act.put, List.setIfInBounds_toArray, List.set_cons_zero, List.set_cons_succ]
    refine wpAnyH_take (i := 2) (v := ?_) rfl (by kernel_rfl) (by kernel_rfl) (by kernel_rfl) (fun _ _ _ h => h) (Or.inl ⟨by kernel_rfl, ?_⟩) hS ?_
    rotate_left
    · intro w' hSw
      obtain ⟨g0, g1, g2, g3, g4, g5, g6, g7, g8, g9, g10, g11, g12, g13, g14, g15, g16, g17, g18, g19, g20, g21, g22, g23, g24, g25, g26, g27, g28, g29, g30, g31, _⟩ := hSw
      first | (go_simp; done) | (go_simp; with_reducible rfl)
    simp only [List.getElem_toArray, List.getElem_cons_zero, List.getElem_cons_succ, Act.put, List.setIfInBounds_toArray, List.set_cons_zero, List.set_cons_succ]
    refine wpAnyH_take (i := 3) (v := ?_) rfl (by kernel_rfl) (by kernel_rfl) (by kernel_rfl) (fun _ _ _ h => h) (Or.inl ⟨by kernel_rfl, ?_⟩) hS ?_
    rotate_left
    · intro w' hSw
      obtain ⟨g0, g1, g2, g3, g4, g5, g6, g7, g8, g9, g10, g11, g12, g13, g14, g15, g16, g17, g18, g19, g20, g21, g22, g23, g24, g25, g26, g27, g28, g29, g30, g31, _⟩ := hSw
      first | (go_simp; done) | (go_simp; with_reducible rfl)
    simp only [List.getElem_toArray, List.getElem_cons_zero, List.getElem_cons_succ, Act.put, List.setIfInBounds_toArray, List.set_cons_zero, List.set_cons_succ]
    refine wpAnyH_ready (rs := [4]) (by kernel_rfl) (List.cons_ne_nil _ _) ?_
    refine AllReadyH.cons rfl (fun K hK => ?_) AllReadyH.nil
    go_simp
    go_at_call 11
    refine (tcp_spec 167772161 b f o s k g n a c l d _ (H5.out.2.2.1.kept hS.2.2.2.2.2.2.2.2.2.2.2.2.2.2.2.2.2.2.2.2.2.2.2.2.2.2.2.2.2.2.2.2) hlm).mono ?_
    rintro e u1 ⟨rfl, hg⟩
    rw [← HQ.out]
    have hF := grownBy_trans (hS.2.2.2.2.2.2.2.2.2.2.2.2.2.2.2.2.2.2.2.2.2.2.2.2.2.2.2.2.2.2.2.2) hg
    clear hg
    refine hK.out _ _ (⟨(hF).cell p0 (by simp), (hF).cell p1 (by simp), (hF).cell p2 (by simp), (hF).cell p3 (by simp), (hF).cell p4 (by simp), (hF).cell p5 (by simp), (hF).cell p6 (by simp), (hF).cell p7 (by simp), (hF).cell p8 (by simp), (hF).cell p9 (by simp), (hF).cell p10 (by simp), (hF).cell p11 (by simp), (hF).cell p12 (by simp), (hF).cell p13 (by simp), (hF).cell p14 (by simp), (hF).cell p15 (by simp), (hF).cell p16 (by simp), (hF).cell p17 (by simp), (hF).cell p18 (by simp), (hF).cell p19 (by simp), (hF).cell p20 (by simp), (hF).cell p21 (by simp), (hF).cell p22 (by simp), (hF).cell p23 (by simp), (hF).cell p24 (by simp), (hF).cell p25 (by simp), (hF).cell p26 (by simp), (hF).cell p27 (by simp), (hF).cell p28 (by simp), (hF).cell p29 (by simp), (hF).cell p30 (by simp), (hF).cell p31 (by simp), hF⟩) (fun hS => ?_)
    clear hF
    clear hK
    try simp only [List.getElem_toArray, List.getElem_cons_zero, List.getElem_cons_succ, Act.put, List.setIfInBounds_toArray, List.set_cons_zero, List.set_cons_succ]
    refine wpAnyH_take (i := 5) (v := ?_) rfl (by kernel_rfl) (by kernel_rfl) (by kernel_rfl) (fun _ _ _ h => h) (Or.inl ⟨by kernel_rfl, ?_⟩) hS ?_
    rotate_left
    · intro w' hSw
      obtain ⟨g0, g1, g2, g3, g4, g5, g6, g7, g8, g9, g10, g11, g12, g13, g14, g15, g16, g17, g18, g19, g20, g21, g22, g23, g24, g25, g26, g27, g28, g29, g30, g31, _⟩ := hSw
      first | (go_simp; done) | (go_simp; with_reducible rfl)
    simp only [List.getElem_toArray, List.getElem_cons_zero, List.getElem_cons_succ, Act.put, List.setIfInBounds_toArray, List.set_cons_zero, List.set_cons_succ]
    refine wpAnyH_take (i := 6) (v := ?_) rfl (by kernel_rfl) (by kernel_rfl) (by kernel_rfl) (fun _ _ _ h => h) (Or.inl ⟨by kernel_rfl, ?_⟩) hS ?_
    rotate_left
    · intro w' hSw
      obtain ⟨g0, g1, g2, g3, g4, g5, g6, g7, g8, g9, g10, g11, g12, g13, g14, g15, g16, g17, g18, g19, g20, g21, g22, g23, g24, g25, g26, g27, g28, g29, g30, g31, _⟩ := hSw
      first | (go_simp; done) | (go_simp; with_reducible rfl)
    simp only [List.getElem_toArray, List.getElem_cons_zero, List.getElem_cons_succ, Act.put, List.setIfInBounds_toArray, List.set_cons_zero, List.set_cons_succ]
    refine wpAnyH_take (i := 7) (v := ?_) rfl (by kernel_rfl) (by kernel_rfl) (by kernel_rfl) (fun _ _ _ h => h) (Or.inl ⟨by kernel_rfl, ?_⟩) hS ?_
    rotate_left
    · intro w' hSw
      obtain ⟨g0, g1, g2, g3, g4, g5, g6, g7, g8, g9, g10, g11, g12, g13, g14, g15, g16, g17, g18, g19, g20, g21, g22, g23, g24, g25, g26, g27, g28, g29, g30, g31, _⟩ := hSw
      first | (go_simp; done) | (go_simp; with_reducible rfl)
    simp only [List.getElem_toArray, List.getElem_cons_zero, List.getElem_cons_succ, Act.put, List.setIfInBounds_toArray, List.set_cons_zero, List.set_cons_succ]
    refine wpAnyH_take (i := 8) (v := ?_) rfl (by kernel_rfl) (by kernel_rfl) (by kernel_rfl) (fun _ _ _ h => h) (Or.inl ⟨by kernel_rfl, ?_⟩) hS ?_
    rotate_left
    · intro w' hSw
      obtain ⟨g0, g1, g2, g3, g4, g5, g6, g7, g8, g9, g10, g11, g12, g13, g14, g15, g16, g17, g18, g19, g20, g21, g22, g23, g24, g25, g26, g27, g28, g29, g30, g31, _⟩ := hSw
      first | (go_simp; done) | (go_simp; with_reducible rfl)
    simp only [List.getElem_toArray, List.getElem_cons_zero, List.getElem_cons_succ, Act.put, List.setIfInBounds_toArray, List.set_cons_zero, List.set_cons_succ]
    refine wpAnyH_ready (rs := [9]) (by kernel_rfl) (List.cons_ne_nil _ _) ?_
    refine AllReadyH.cons rfl (fun K hK => ?_) AllReadyH.nil
    go_simp
    go_at_call 12
    refine (same_tcp xf xo xs xk xg xn xp yp xc yc xl xd _ (H5.out.2.2.2.2.1.kept hS.2.2.2.2.2.2.2.2.2.2.2.2.2.2.2.2.2.2.2.2.2.2.2.2.2.2.2.2.2.2.2.2) (H5.out.2.2.2.2.2.2.1.kept hS.2.2.2.2.2.2.2.2.2.2.2.2.2.2.2.2.2.2.2.2.2.2.2.2.2.2.2.2.2.2.2.2) hxl3).mono ?_
    rintro e u1 ⟨rfl, hg⟩
    have hF := grownBy_trans (hS.2.2.2.2.2.2.2.2.2.2.2.2.2.2.2.2.2.2.2.2.2.2.2.2.2.2.2.2.2.2.2.2) hg
    clear hg
    refine hK.out _ _ (⟨(hF).cell p0 (by simp), (hF).cell p1 (by simp), (hF).cell p2 (by simp), (hF).cell p3 (by simp), (hF).cell p4 (by simp), (hF).cell p5 (by simp), (hF).cell p6 (by simp), (hF).cell p7 (by simp), (hF).cell p8 (by simp), (hF).cell p9 (by simp), (hF).cell p10 (by simp), (hF).cell p11 (by simp), (hF).cell p12 (by simp), (hF).cell p13 (by simp), (hF).cell p14 (by simp), (hF).cell p15 (by simp), (hF).cell p16 (by simp), (hF).cell p17 (by simp), (hF).cell p18 (by simp), (hF).cell p19 (by simp), (hF).cell p20 (by simp), (hF).cell p21 (by simp), (hF).cell p22 (by simp), (hF).cell p23 (by simp), (hF).cell p24 (by simp), (hF).cell p25 (by simp), (hF).cell p26 (by simp), (hF).cell p27 (by simp), (hF).cell p28 (by simp), (hF).cell p29 (by simp), (hF).cell p30 (by simp), (hF).cell p31 (by simp), hF⟩) (fun hS => ?_)
    clear hF
    clear hK
    try simp only [List.getElem_toArray, List.getElem_cons_zero, List.getElem_cons_succ, Act.put, List.setIfInBounds_toArray, List.set_cons_zero, List.set_cons_succ]
    refine wpAnyH_take (i := 10) (v := ?_) rfl (by kernel_rfl) (by kernel_rfl) (by kernel_rfl) (fun _ _ _ h => h) (Or.inl ⟨by kernel_rfl, ?_⟩) hS ?_
    rotate_left
    · intro w' hSw
      obtain ⟨g0, g1, g2, g3, g4, g5, g6, g7, g8, g9, g10, g11, g12, g13, g14, g15, g16, g17, g18, g19, g20, g21, g22, g23, g24, g25, g26, g27, g28, g29, g30, g31, _⟩ := hSw
      first | (go_simp; done) | (go_simp; with_reducible rfl)
    simp only [List.getElem_toArray, List.getElem_cons_zero, List.getElem_cons_succ, Act.put, List.setIfInBounds_toArray, List.set_cons_zero, List.set_cons_succ]
    refine wpAnyH_take (i := 11) (v := ?_) rfl (by kernel_rfl) (by kernel_rfl) (by kernel_rfl) (fun _ _ _ h => h) (Or.inl ⟨by kernel_rfl, ?_⟩) hS ?_
    rotate_left
    · intro w' hSw
      obtain ⟨g0, g1, g2, g3, g4, g5, g6, g7, g8, g9, g10, g11, g12, g13, g14, g15, g16, g17, g18, g19, g20, g21, g22, g23, g24, g25, g26, g27, g28, g29, g30, g31, _⟩ := hSw
      first | (go_simp; done) | (go_simp; with_reducible rfl)
    simp only [List.getElem_toArray, List.getElem_cons_zero, List.getElem_cons_succ, Act.put, List.setIfInBounds_toArray, List.set_cons_zero, List.set_cons_succ]
    refine wpAnyH_take (i := 12) (v := ?_) rfl (by kernel_rfl) (by kernel_rfl) (by kernel_rfl) (fun _ _ _ h => h) (Or.inl ⟨by kernel_rfl, ?_⟩) hS ?_
    rotate_left
    · intro w' hSw
      obtain ⟨g0, g1, g2, g3, g4, g5, g6, g7, g8, g9, g10, g11, g12, g13, g14, g15, g16, g17, g18, g19, g20, g21, g22, g23, g24, g25, g26, g27, g28, g29, g30, g31, _⟩ := hSw
      first | (go_simp; done) | (go_simp; with_reducible rfl)
    simp only [List.getElem_toArray, List.getElem_cons_zero, List.getElem_cons_succ, Act.put, List.setIfInBounds_toArray, List.set_cons_zero, List.set_cons_succ]
    refine wpAnyH_take (i := 13) (v := ?_) rfl (by kernel_rfl) (by kernel_rfl) (by kernel_rfl) (fun _ _ _ h => h) (Or.inl ⟨by kernel_rfl, ?_⟩) hS ?_
    rotate_left
    · intro w' hSw
      obtain ⟨g0, g1, g2, g3, g4, g5, g6, g7, g8, g9, g10, g11, g12, g13, g14, g15, g16, g17, g18, g19, g20, g21, g22, g23, g24, g25, g26, g27, g28, g29, g30, g31, _⟩ := hSw
      first | (go_simp; done) | (go_simp; with_reducible rfl)
    simp only [List.getElem_toArray, List.getElem_cons_zero, List.getElem_cons_succ, Act.put, List.setIfInBounds_toArray, List.set_cons_zero, List.set_cons_succ]
    refine wpAnyH_take (i := 14) (v := ?_) rfl (by kernel_rfl) (by kernel_rfl) (by kernel_rfl) (fun _ _ _ h => h) (Or.inl ⟨by kernel_rfl, ?_⟩) hS ?_
    rotate_left
    · intro w' hSw
      obtain ⟨g0, g1, g2, g3, g4, g5, g6, g7, g8, g9, g10, g11, g12, g13, g14, g15, g16, g17, g18, g19, g20, g21, g22, g23, g24, g25, g26, g27, g28, g29, g30, g31, _⟩ := hSw
      first | (go_simp; done) | (go_simp; with_reducible rfl)
    simp only [List.getElem_toArray, List.getElem_cons_zero, List.getElem_cons_succ, Act.put, List.setIfInBounds_toArray, List.set_cons_zero, List.set_cons_succ]
    refine wpAnyH_take (i := 15) (v := ?_) rfl (by kernel_rfl) (by kernel_rfl) (by kernel_rfl) (fun _ _ _ h => h) (Or.inl ⟨by kernel_rfl, ?_⟩) hS ?_
    rotate_left
    · intro w' hSw
      obtain ⟨g0, g1, g2, g3, g4, g5, g6, g7, g8, g9, g10, g11, g12, g13, g14, g15, g16, g17, g18, g19, g20, g21, g22, g23, g24, g25, g26, g27, g28, g29, g30, g31, _⟩ := hSw
      first | (go_simp; done) | (go_simp; with_reducible rfl)
    simp only [List.getElem_toArray, List.getElem_cons_zero, List.getElem_cons_succ, Act.put, List.setIfInBounds_toArray, List.set_cons_zero, List.set_cons_succ]
    refine wpAnyH_take (i := 16) (v := ?_) rfl (by kernel_rfl) (by kernel_rfl) (by kernel_rfl) (fun _ _ _ h => h) (Or.inl ⟨by kernel_rfl, ?_⟩) hS ?_
    rotate_left
    · intro w' hSw
      obtain ⟨g0, g1, g2, g3, g4, g5, g6, g7, g8, g9, g10, g11, g12, g13, g14, g15, g16, g17, g18, g19, g20, g21, g22, g23, g24, g25, g26, g27, g28, g29, g30, g31, _⟩ := hSw
      first | (go_simp; done) | (go_simp; with_reducible rfl)
    simp only [List.getElem_toArray, List.getElem_cons_zero, List.getElem_cons_succ, Act.put, List.setIfInBounds_toArray, List.set_cons_zero, List.set_cons_succ]
    refine wpAnyH_take (i := 17) (v := ?_) rfl (by kernel_rfl) (by kernel_rfl) (by kernel_rfl) (fun _ _ _ h => h) (Or.inl ⟨by kernel_rfl, ?_⟩) hS ?_
    rotate_left
    · intro w' hSw
      obtain ⟨g0, g1, g2, g3, g4, g5, g6, g7, g8, g9, g10, g11, g12, g13, g14, g15, g16, g17, g18, g19, g20, g21, g22, g23, g24, g25, g26, g27, g28, g29, g30, g31, _⟩ := hSw
      first | (go_simp; done) | (go_simp; with_reducible rfl)
    simp only [List.getElem_toArray, List.getElem_cons_zero, List.getElem_cons_succ, Act.put, List.setIfInBounds_toArray, List.set_cons_zero, List.set_cons_succ]
    refine wpAnyH_take (i := 18) (v := ?_) rfl (by kernel_rfl) (by kernel_rfl) (by kernel_rfl) (fun _ _ _ h => h) (Or.inl ⟨by kernel_rfl, ?_⟩) hS ?_
    rotate_left
    · intro w' hSw
      obtain ⟨g0, g1, g2, g3, g4, g5, g6, g7, g8, g9, g10, g11, g12, g13, g14, g15, g16, g17, g18, g19, g20, g21, g22, g23, g24, g25, g26, g27, g28, g29, g30, g31, _⟩ := hSw
      first | (go_simp; done) | (go_simp; with_reducible rfl)
    simp only [List.getElem_toArray, List.getElem_cons_zero, List.getElem_cons_succ, Act.put, List.setIfInBounds_toArray, List.set_cons_zero, List.set_cons_succ]
    refine wpAnyH_take (i := 20) (v := ?_) rfl (by kernel_rfl) (by kernel_rfl) (by kernel_rfl) (fun _ _ _ h => h) (Or.inl ⟨by kernel_rfl, ?_⟩) hS ?_
    rotate_left
    · intro w' hSw
      obtain ⟨g0, g1, g2, g3, g4, g5, g6, g7, g8, g9, g10, g11, g12, g13, g14, g15, g16, g17, g18, g19, g20, g21, g22, g23, g24, g25, g26, g27, g28, g29, g30, g31, _⟩ := hSw
      first | (go_simp; done) | (go_simp; with_reducible rfl)
    simp only [List.getElem_toArray, List.getElem_cons_zero, List.getElem_cons_succ, Act.put, List.setIfInBounds_toArray, List.set_cons_zero, List.set_cons_succ]
    refine wpAnyH_ready (rs := [19]) (by kernel_rfl) (List.cons_ne_nil _ _) ?_
    refine AllReadyH.cons rfl (fun K hK => ?_) AllReadyH.nil
    go_simp
    go_at_call 13
    refine (tcp_ok_impl zf zo zs zk zg zn za zc zl zd _ (H5.out.2.2.2.2.2.2.2.2.kept hS.2.2.2.2.2.2.2.2.2.2.2.2.2.2.2.2.2.2.2.2.2.2.2.2.2.2.2.2.2.2.2.2)).mono ?_
    rintro e u1 ⟨rfl, hg⟩
    have hF := grownBy_trans (hS.2.2.2.2.2.2.2.2.2.2.2.2.2.2.2.2.2.2.2.2.2.2.2.2.2.2.2.2.2.2.2.2) hg
    clear hg
    refine hK.out _ _ (⟨(hF).cell p0 (by simp), (hF).cell p1 (by simp), (hF).cell p2 (by simp), (hF).cell p3 (by simp), (hF).cell p4 (by simp), (hF).cell p5 (by simp), (hF).cell p6 (by simp), (hF).cell p7 (by simp), (hF).cell p8 (by simp), (hF).cell p9 (by simp), (hF).cell p10 (by simp), (hF).cell p11 (by simp), (hF).cell p12 (by simp), (hF).cell p13 (by simp), (hF).cell p14 (by simp), (hF).cell p15 (by simp), (hF).cell p16 (by simp), (hF).cell p17 (by simp), (hF).cell p18 (by simp), (hF).cell p19 (by simp), (hF).cell p20 (by simp), (hF).cell p21 (by simp), (hF).cell p22 (by simp), (hF).cell p23 (by simp), (hF).cell p24 (by simp), (hF).cell p25 (by simp), (hF).cell p26 (by simp), (hF).cell p27 (by simp), (hF).cell p28 (by simp), (hF).cell p29 (by simp), (hF).cell p30 (by simp), (hF).cell p31 (by simp), hF⟩) (fun hS => ?_)
    clear hF
    clear hK
    try simp only [List.getElem_toArray, List.getElem_cons_zero, List.getElem_cons_succ, Act.put, List.setIfInBounds_toArray, List.set_cons_zero, List.set_cons_succ]
    refine wpAnyH_ready (rs := [21]) (by kernel_rfl) (List.cons_ne_nil _ _) ?_
    refine AllReadyH.cons rfl (fun K hK => ?_) AllReadyH.nil
    go_simp
    go_at_call 14
    refine (tcp_ok_spec zf zo zs zk zg zn za zc zl zd _ (H5.out.2.2.2.2.2.2.2.2.kept hS.2.2.2.2.2.2.2.2.2.2.2.2.2.2.2.2.2.2.2.2.2.2.2.2.2.2.2.2.2.2.2.2) hzm).mono ?_
    rintro e u1 ⟨rfl, hg⟩
    have hF := grownBy_trans (hS.2.2.2.2.2.2.2.2.2.2.2.2.2.2.2.2.2.2.2.2.2.2.2.2.2.2.2.2.2.2.2.2) hg
    clear hg
    refine hK.out _ _ (⟨(hF).cell p0 (by simp), (hF).cell p1 (by simp), (hF).cell p2 (by simp), (hF).cell p3 (by simp), (hF).cell p4 (by simp), (hF).cell p5 (by simp), (hF).cell p6 (by simp), (hF).cell p7 (by simp), (hF).cell p8 (by simp), (hF).cell p9 (by simp), (hF).cell p10 (by simp), (hF).cell p11 (by simp), (hF).cell p12 (by simp), (hF).cell p13 (by simp), (hF).cell p14 (by simp), (hF).cell p15 (by simp), (hF).cell p16 (by simp), (hF).cell p17 (by simp), (hF).cell p18 (by simp), (hF).cell p19 (by simp), (hF).cell p20 (by simp), (hF).cell p21 (by simp), (hF).cell p22 (by simp), (hF).cell p23 (by simp), (hF).cell p24 (by simp), (hF).cell p25 (by simp), (hF).cell p26 (by simp), (hF).cell p27 (by simp), (hF).cell p28 (by simp), (hF).cell p29 (by simp), (hF).cell p30 (by simp), (hF).cell p31 (by simp), hF⟩) (fun hS => ?_)
    clear hF
    clear hK
    try simp only [List.getElem_toArray, List.getElem_cons_zero, List.getElem_cons_succ, Act.put, List.setIfInBounds_toArray, List.set_cons_zero, List.set_cons_succ]
    refine wpAnyH_take (i := 22) (v := ?_) rfl (by kernel_rfl) (by kernel_rfl) (by kernel_rfl) (fun _ _ _ h => h) (Or.inl ⟨by kernel_rfl, ?_⟩) hS ?_
    rotate_left
    · intro w' hSw
      obtain ⟨g0, g1, g2, g3, g4, g5, g6, g7, g8, g9, g10, g11, g12, g13, g14, g15, g16, g17, g18, g19, g20, g21, g22, g23, g24, g25, g26, g27, g28, g29, g30, g31, _⟩ := hSw
      first | (go_simp; done) | (go_simp; with_reducible rfl)
    simp only [List.getElem_toArray, List.getElem_cons_zero, List.getElem_cons_succ, Act.put, List.setIfInBounds_toArray, List.set_cons_zero, List.set_cons_succ]
    refine wpAnyH_take (i := 23) (v := ?_) rfl (by kernel_rfl) (by kernel_rfl) (by kernel_rfl) (fun _ _ _ h => h) (Or.inl ⟨by kernel_rfl, ?_⟩) hS ?_
    rotate_left
    · intro w' hSw
      obtain ⟨g0, g1, g2, g3, g4, g5, g6, g7, g8, g9, g10, g11, g12, g13, g14, g15, g16, g17, g18, g19, g20, g21, g22, g23, g24, g25, g26, g27, g28, g29, g30, g31, _⟩ := hSw
      first | (go_simp; done) | (go_simp; with_reducible rfl)
    simp only [List.getElem_toArray, List.getElem_cons_zero, List.getElem_cons_succ, Act.put, List.setIfInBounds_toArray, List.set_cons_zero, List.set_cons_succ]
    refine wpAnyH_done (by kernel_rfl) ?_ _
    have HFR := hS.2.2.2.2.2.2.2.2.2.2.2.2.2.2.2.2.2.2.2.2.2.2.2.2.2.2.2.2.2.2.2.2
    have H6 := Lib.hid (And.intro (grownBy_trans H5.out.1 HFR) (And.intro (H5.out.2.1.keep HFR) (And.intro (H5.out.2.2.1.kept HFR) (And.intro (H5.out.2.2.2.1.keep HFR) (And.intro (H5.out.2.2.2.2.1.kept HFR) (And.intro (H5.out.2.2.2.2.2.1.keep HFR) (And.intro (H5.out.2.2.2.2.2.2.1.kept HFR) (And.intro (H5.out.2.2.2.2.2.2.2.1.keep HFR) (H5.out.2.2.2.2.2.2.2.2.kept HFR)))))))))
    clear HFR hS H5
    clear hzm p0 p1 p2 p3 p4 p5 p6 p7 p8 p9 p10 p11 p12 p13 p14 p15 p16 p17 p18 p19 p20 p21 p22 p23 p24 p25 p26 p27 p28 p29 p30 p31
    by_cases hq : Q = []
    · subst hq
      go_wp2_with fail
      go_ret
      exact ⟨rfl, below_new H6.out.1⟩
    · have q1 : Q.isEmpty = false := by simpa using hq
      have hG : tcpG 167772161 b f o s k g n l d := Classical.byContradiction fun hn => hq (by rw [HQ.out]; exact if_neg hn)
      have hQ2 : Q = tcpT 167772161 b f o s k g n l d := by rw [HQ.out]; exact if_pos hG
      have hsr := seg_read hG (seg_sum0 hG)
      have hql := (seg_zero 167772161 b f o s k g n l d hG).2.1
      rw [← hQ2] at hsr hql
      have HG := Lib.hid hsr
      have HB := Lib.hid hG.2.1
      clear hsr hG hQ2 hq
      go_wp2_with fail
      refine (read_I 167772161 b Q _ (by omega) HB.out (by omega)).mono ?_
      intro e w12 ht
      rw [HG.out.1] at ht
      obtain ⟨rp, rc, rfl, hr1, hg⟩ := ht
      rw [HG.out.2.1, HG.out.2.2.1, HG.out.2.2.2.1, HG.out.2.2.2.2.1, HG.out.2.2.2.2.2.1, HG.out.2.2.2.2.2.2.1, HG.out.2.2.2.2.2.2.2]
      have ha := World.grownBy_alloc w12 (.cells #[.int .i64 f, .int .i64 o, .int .i64 s, .int .i64 k, .int .i64 g, .int .i64 n, .slice rp l.length rc, .string ⟨d.toArray⟩] 26) none
      have H7 := Lib.hid (And.intro (grownBy_trans H6.out.1 (grownBy_trans hg ha)) (And.intro (H6.out.2.1.keep (grownBy_trans hg ha)) (And.intro (H6.out.2.2.1.kept (grownBy_trans hg ha)) (And.intro (H6.out.2.2.2.1.keep (grownBy_trans hg ha)) (And.intro (H6.out.2.2.2.2.1.kept (grownBy_trans hg ha)) (And.intro (H6.out.2.2.2.2.2.1.keep (grownBy_trans hg ha)) (And.intro (H6.out.2.2.2.2.2.2.1.kept (grownBy_trans hg ha)) (And.intro (H6.out.2.2.2.2.2.2.2.1.keep (grownBy_trans hg ha)) (And.intro (H6.out.2.2.2.2.2.2.2.2.kept (grownBy_trans hg ha)) (And.intro (Bx.new w12 26 #[.int .i64 f, .int .i64 o, .int .i64 s, .int .i64 k, .int .i64 g, .int .i64 n, .slice rp l.length rc, .string ⟨d.toArray⟩]) (hr1.kept ha)))))))))))
      clear H6 hg hr1 ha
      go_upto_region 14 with fail
      generalize w12.alloc (.cells #[.int .i64 f, .int .i64 o, .int .i64 s, .int .i64 k, .int .i64 g, .int .i64 n, .slice rp l.length rc, .string ⟨d.toArray⟩] 26) = w13 at *
      generalize w12.heap.size = B15 at *
      have r0 := H7.out.2.2.2.2.2.2.2.2.2.1.c 0 (x := .int .i64 f) rfl
      have r1 := H7.out.2.2.2.2.2.2.2.2.2.1.c 1 (x := .int .i64 o) rfl
      have r2 := H7.out.2.2.2.2.2.2.2.2.2.1.c 2 (x := .int .i64 s) rfl
      have r3 := H7.out.2.2.2.2.2.2.2.2.2.1.c 3 (x := .int .i64 k) rfl
      have r4 := H7.out.2.2.2.2.2.2.2.2.2.1.c 4 (x := .int .i64 g) rfl
      have r5 := H7.out.2.2.2.2.2.2.2.2.2.1.c 5 (x := .int .i64 n) rfl
      have r6 := H7.out.2.2.2.2.2.2.2.2.2.1.c 6 (x := .slice rp l.length rc) rfl
      have r7 := H7.out.2.2.2.2.2.2.2.2.2.1.c 7 (x := .string ⟨d.toArray⟩) rfl
      have t0 := H7.out.2.1.c 0 (x := .int .i64 f) rfl
      have t1 := H7.out.2.1.c 1 (x := .int .i64 o) rfl
      have t2 := H7.out.2.1.c 2 (x := .int .i64 s) rfl
      have t3 := H7.out.2.1.c 3 (x := .int .i64 k) rfl
      have t4 := H7.out.2.1.c 4 (x := .int .i64 g) rfl
      have t5 := H7.out.2.1.c 5 (x := .int .i64 n) rfl
      have t6 := H7.out.2.1.c 6 (x := .slice a l.length c) rfl
      have t7 := H7.out.2.1.c 7 (x := .string ⟨d.toArray⟩) rfl
      go_wp2_with fail
      refine (same_tcp f o s k g n rp a rc c l d _ H7.out.2.2.2.2.2.2.2.2.2.2 H7.out.2.2.1 hlm2).mono ?_
      rintro e w14 ⟨rfl, hg⟩
      have H8 := Lib.hid (And.intro (grownBy_trans H7.out.1 hg) (And.intro (H7.out.2.1.keep hg) (And.intro (H7.out.2.2.1.kept hg) (And.intro (H7.out.2.2.2.1.keep hg) (And.intro (H7.out.2.2.2.2.1.kept hg) (And.intro (H7.out.2.2.2.2.2.1.keep hg) (And.intro (H7.out.2.2.2.2.2.2.1.kept hg) (And.intro (H7.out.2.2.2.2.2.2.2.1.keep hg) (And.intro (H7.out.2.2.2.2.2.2.2.2.1.kept hg) (And.intro (H7.out.2.2.2.2.2.2.2.2.2.1.keep hg) (H7.out.2.2.2.2.2.2.2.2.2.2.kept hg)))))))))))
      clear H7 hg r0 t0 r1 t1 r2 t2 r3 t3 r4 t4 r5 t5 r6 t6 r7 t7
      cases xb
      · go_wp2_with fail
        go_ret
        exact ⟨rfl, below_new H8.out.1⟩
      · have x0 := H8.out.2.2.2.1.c 0 (x := .int .i64 xf) rfl
        have x1 := H8.out.2.2.2.1.c 1 (x := .int .i64 xo) rfl
        have x2 := H8.out.2.2.2.1.c 2 (x := .int .i64 xs) rfl
        have x3 := H8.out.2.2.2.1.c 3 (x := .int .i64 xk) rfl
        have x4 := H8.out.2.2.2.1.c 4 (x := .int .i64 xg) rfl
        have x5 := H8.out.2.2.2.1.c 5 (x := .int .i64 xn) rfl
        have x6 := H8.out.2.2.2.1.c 6 (x := .slice xp xl.length xc) rfl
        have x7 := H8.out.2.2.2.1.c 7 (x := .string ⟨xd.toArray⟩) rfl
        go_wp2_with fail
        refine (tcp_ok_impl xf xo xs xk xg xn xp xc xl xd _ H8.out.2.2.2.2.1).mono ?_
        rintro e w15 ⟨rfl, hg⟩
        rw [decide_eq_true (HX.out (by simp))]
        have HZ := Lib.hid (grownBy_trans H8.out.1 hg)
        clear hg
        go_wp2_with fail
        go_ret
        exact ⟨rfl, below_new HZ.out⟩

set_option maxRecDepth 100000 in

theorem lifted (os : Os) (started : os.Started) (H : Type) (enc : TypeId × Value → H) :
    ReturnsInHanded {} Try.checked os 3 .any (Rows.fnTcpsSpec.pre6 enc Try.prog Try.f3 Rows.fnTcpsRow.domain false) (Rows.fnTcpsSpec.post enc Try.prog Try.f3 false true false false) := by
  refine returnsInHanded_of_change (C := Try.checked) own started (by kernel_rfl) Try.func3
    (ChangeSpec.witness6 (enc := enc) (C := Try.checked) false ⟨#[], #[.slice none 0 0], []⟩ 8 (by kernel_rfl) (by kernel_rfl) (by kernel_rfl) (by kernel_rfl)) ?_
  intro W base args ds gs before hval0 hW hcnd _
  have hval : ∀ (j : Nat) t v, Try.f3.params[j]? = some t → args[j]? = some v → Value.okWide Try.prog W .any base t v := hval0
  have hW' := hW
  obtain ⟨p, q, hA0, hV, rfl, hfz, hnd⟩ := hW
  have hA : DataW.TrodAll enc Try.prog W 0 (fun _ => true) true Try.f3.params.toList args.toList ds p := hA0
  rw [Try.params3] at hA hval
  obtain ⟨v0, vs0, d0, ds0, p0, q0, hargs, rfl, rfl, h0, r0⟩ := trodAll_cons hA
  obtain ⟨rfl, rfl, rfl⟩ := trodAll_nil r0
  obtain rfl : args = #[v0] := by cases args; simp_all
  obtain ⟨rfl, rfl⟩ := trodVars_none hV
  have k0 := h0
  have lt0 : ∀ x ∈ p0, x.block < W.heap.size := by obtain ⟨m, hm⟩ := k0; exact DataW.trod_lt m _ _ _ hm
  obtain ⟨a0, len0, cap0, rfl⟩ := okWide_slice Try.underlying22 (hval 0 22 v0 rfl rfl)
  obtain ⟨z0, w0⟩ : ∃ zs, IsRow .u8 W a0 len0 cap0 zs := by
    obtain ⟨fuel, hf⟩ := h0
    rcases open_ints Try.underlying22 Try.underlying5 (by kernel_rfl) hf with ⟨hcs, _⟩ | ⟨x, l, c, zs, hcs, _, hl, hm, hz, _, hcell, hwz⟩
    · simp [Value.cells] at hcs
      obtain ⟨rfl, rfl, rfl⟩ := hcs
      exact ⟨[], .inl ⟨rfl, rfl, rfl, rfl⟩⟩
    · simp [Value.cells] at hcs
      obtain ⟨rfl, rfl, rfl⟩ := hcs
      exact ⟨zs, .inr ⟨_, rfl, hl, hm, by simpa using hz, hcell, hwz⟩⟩
  clear hA0 hval0
  refine (walk a0 len0 cap0 z0 W w0).mono fun e W' ⟨he, bel⟩ => ?_
  subst he
  exact ⟨_, rfl, _, _, _, [], _, [], hW', trodAll_mk1 (shut_bool Try.underlying4 _), (trodAll_cons_mk (Below.trod laidOut (by kernel_rfl) (of_decide_eq_true (by kernel_rfl)) k0 bel lt0) trodAll_mk0), rfl, bel.frame _, fun h => by cases h⟩

theorem over : Rows.fnTcpsRow.holds Try.pinned (OpenSpec.ofChange Rows.fnTcpsSpec) :=
  OpenClaim.holds_of_wide 3 Try.f3 rfl rfl rfl rfl rfl rfl rfl ⟨rfl, rfl, rfl, rfl, rfl⟩ rfl rfl rfl rfl rfl (by kernel_rfl) Try.func3 (by kernel_rfl)
    (of_decide_eq_true (by kernel_rfl)) (by unfold Func.isWrapper; first | (rw [if_pos (by decide +kernel)]; kernel_rfl) | (rw [if_neg (by decide +kernel)]; exact ⟨rfl, rfl⟩))
    (fun os started H enc _ => lifted os started H enc)

theorem proved : Rows.FnTcpsSaid := over
end Go.Proofs.Ythfhffcimjolgaa.fnTcps
