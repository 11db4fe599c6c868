/- For every world the law FnExactWorldOk answers true and leaves its argument as it was; no condition. -/
import Derived.Test.YteffpcgmoegomaaRows
import Derived.Test.YteffpcgmoegomaaDraw
import Derived.Test.YteffpcgmoegomaaWdV
import Derived.Test.YteffpcgmoegomaaWdT
import Derived.Test.YteffpcgmoegomaaWdO
import Derived.WalkKit
import Derived.ProofKit
import Derived.OpenShut
import Derived.ShutString
import Derived.ChangeOld
import Derived.Below
import Derived.Lib.SmallJoins
namespace Go.Proofs.Yteffpcgmoegomaa.fnExactWorldOk
open Go.ChangeShapes Go.WideShapes Go.ChangeAt Go.RowKit Go.Joins
open Go.ChangeMaps (open_string shut_string)
open P7 (Pk PkAt)
set_option linter.unusedVariables false

theorem own : ownKnob Try.prog.godebug = none := by kernel_rfl
theorem laidOut : laidOutB Try.prog = true := by kernel_rfl


theorem o_small {t u : List Nt} {k : Nat} (h : u.map Nt.o = t.map Nt.o) (hm : ∀ x ∈ t, x.l.length ≤ k) : ∀ x ∈ u, x.l.length ≤ k := by
  intro x hx
  have h1 : x.o ∈ t.map Nt.o := by rw [← h]; exact List.mem_map_of_mem hx
  obtain ⟨y, hy, e⟩ := List.mem_map.1 h1
  have e2 : y.l = x.l := congrArg No.l e
  rw [← e2]
  exact hm y hy

set_option maxRecDepth 100000 in
set_option maxHeartbeats 8000000 in
theorem walk (t m y z p d o g u n : Int) (sa : Option Addr) (sc : Nat) (sl : List Rg) (ga : Option Addr) (gc : Nat) (gl : List Pk) (da : Option Addr) (dc : Nat) (dl : List Rg) (ua : Option Addr) (uc : Nat) (ul : List Nt) (na : Option Addr) (nc : Nat) (nl : List Nt) (w : World) (w0 : WdAt w sa sl ga gl da dl ua ul na nl) (ns0 : sl.length ≤ maxLen) (ng0 : gl.length ≤ maxLen ∧ ∀ x ∈ gl, x.2.length ≤ maxLen) (nd0 : dl.length ≤ maxLen) (nu0 : ul.length ≤ maxLen ∧ ∀ x ∈ ul, x.l.length ≤ maxLen) (nn0 : nl.length ≤ maxLen ∧ ∀ x ∈ nl, x.l.length ≤ maxLen) :
    Calls Try.prog 3 #[.agg #[.int .i64 t, .int .i64 m, .int .i64 y, .int .i64 z, .int .i64 p, .int .i64 d, .int .i64 o, .int .i64 g, .int .i64 u, .int .i64 n, .slice sa sl.length sc, .slice ga gl.length gc, .slice da dl.length dc, .slice ua ul.length uc, .slice na nl.length nc]] w fun e w' => e = .returned (.bool true) ∧ Below w.heap.size w w' := by
  have hg0 := World.grownBy_alloc w (.cells #[.int .i64 t, .int .i64 m, .int .i64 y, .int .i64 z, .int .i64 p, .int .i64 d, .int .i64 o, .int .i64 g, .int .i64 u, .int .i64 n, .slice sa sl.length sc, .slice ga gl.length gc, .slice da dl.length dc, .slice ua ul.length uc, .slice na nl.length nc] 30) none
  have H0 := Lib.hid (And.intro hg0 (And.intro (w0.kept hg0) (Bx.new w 30 #[.int .i64 t, .int .i64 m, .int .i64 y, .int .i64 z, .int .i64 p, .int .i64 d, .int .i64 o, .int .i64 g, .int .i64 u, .int .i64 n, .slice sa sl.length sc, .slice ga gl.length gc, .slice da dl.length dc, .slice ua ul.length uc, .slice na nl.length nc])))
  clear w0 hg0
  unfold maxLen at ns0 ng0 nd0
  go_enter Try.func3, Try.ntmps3
  go_upto_region 1 with fail
  generalize w.alloc (.cells #[.int .i64 t, .int .i64 m, .int .i64 y, .int .i64 z, .int .i64 p, .int .i64 d, .int .i64 o, .int .i64 g, .int .i64 u, .int .i64 n, .slice sa sl.length sc, .slice ga gl.length gc, .slice da dl.length dc, .slice ua ul.length uc, .slice na nl.length nc] 30) = w1 at *
  generalize w.heap.size = B at *
  have b0 := H0.out.2.2.c 0 rfl
  have b1 := H0.out.2.2.c 1 rfl
  have b2 := H0.out.2.2.c 2 rfl
  have b3 := H0.out.2.2.c 3 rfl
  have b4 := H0.out.2.2.c 4 rfl
  have b5 := H0.out.2.2.c 5 rfl
  have b6 := H0.out.2.2.c 6 rfl
  have b7 := H0.out.2.2.c 7 rfl
  have b8 := H0.out.2.2.c 8 rfl
  have b9 := H0.out.2.2.c 9 rfl
  have b10 := H0.out.2.2.c 10 rfl
  have b11 := H0.out.2.2.c 11 rfl
  have b12 := H0.out.2.2.c 12 rfl
  have b13 := H0.out.2.2.c 13 rfl
  have b14 := H0.out.2.2.c 14 rfl
  go_wp2_with fail
  refine (sz_world t m y z p d o g u n sa sc sl ga gc gl da dc dl ua uc ul na nc nl _ H0.out.2.1 (by omega) (by omega) (fun x hx => by have := ng0.2 x hx; omega) (by omega) nu0.1 nu0.2 nn0.1 nn0.2).mono ?_
  rintro e w2 ⟨⟨r, rfl, hr⟩, hg⟩
  have H2 := Lib.hid (And.intro (grownBy_trans H0.out.1 hg) (And.intro (H0.out.2.1.kept hg) (H0.out.2.2.keep hg)))
  have HS := Lib.hid hr
  clear hg hr H0 ns0 ng0 nd0 nu0 nn0 b0 b1 b2 b3 b4 b5 b6 b7 b8 b9 b10 b11 b12 b13 b14
  by_cases hneg : r < 0
  · go_wp2_with fail
    go_ret
    exact ⟨rfl, below_new H2.out.1⟩
  · have S := Lib.hid (HS.out (by omega))
    clear HS
    have b0 := H2.out.2.2.c 0 rfl
    have b1 := H2.out.2.2.c 1 rfl
    have b2 := H2.out.2.2.c 2 rfl
    have b3 := H2.out.2.2.c 3 rfl
    have b4 := H2.out.2.2.c 4 rfl
    have b5 := H2.out.2.2.c 5 rfl
    have b6 := H2.out.2.2.c 6 rfl
    have b7 := H2.out.2.2.c 7 rfl
    have b8 := H2.out.2.2.c 8 rfl
    have b9 := H2.out.2.2.c 9 rfl
    have b10 := H2.out.2.2.c 10 rfl
    have b11 := H2.out.2.2.c 11 rfl
    have b12 := H2.out.2.2.c 12 rfl
    have b13 := H2.out.2.2.c 13 rfl
    have b14 := H2.out.2.2.c 14 rfl
    go_wp2_with fail
    refine (to_world t m y z p d o g u n sa sc sl ga gc gl da dc dl ua uc ul na nc nl _ (H2.out.2.1) S.out.1 S.out.2.1.1 S.out.2.2.1 S.out.2.2.2.1.1 S.out.2.2.2.2.1 S.out.2.2.2.1.2 S.out.2.2.2.2.2).mono ?_
    rintro e w3 ⟨sa1, ga1, da1, ua1, us1, na1, ns1, hu1, hn1, rfl, hg, ha1⟩
    have T1 := Lib.hid (And.intro hu1 hn1)
    have H3 := Lib.hid (And.intro (grownBy_trans H2.out.1 hg) (And.intro (H2.out.2.1.kept hg) (And.intro (H2.out.2.2.keep hg) ha1)))
    clear hg ha1 hu1 hn1 b0 b1 b2 b3 b4 b5 b6 b7 b8 b9 b10 b11 b12 b13 b14
    go_wp2_with fail
    refine (wd_S t m y z p d o g u n sa1 sl.length sl ga1 gl.length gl da1 dl.length dl ua1 us1.length us1 na1 ns1.length ns1 _ H3.out.2.2.2 S.out.1 S.out.2.1.1 S.out.2.2.1 (by rw [T1.out.1.1]; exact S.out.2.2.2.1.1) (by rw [T1.out.2.1]; exact S.out.2.2.2.2.1) (o_small T1.out.2.2 S.out.2.2.2.2.2) (o_small T1.out.1.2 S.out.2.2.2.1.2)).mono ?_
    rintro e w4 ⟨rfl, hg⟩
    rw [T1.out.1.2, T1.out.2.2]
    have HK := Lib.hid (show ∃ k, wdOk t ⟨m, y, z, p, d, o, g⟩ u n sl gl dl (ul.map Nt.o) (nl.map Nt.o) = k from ⟨_, rfl⟩)
    obtain ⟨k, hk⟩ := HK.out
    rw [hk]
    have HK := Lib.hid hk
    have H4 := Lib.hid (And.intro (grownBy_trans H3.out.1 hg) (And.intro (H3.out.2.1.kept hg) (H3.out.2.2.1.keep hg)))
    clear hg hk
    have b0 := H4.out.2.2.c 0 rfl
    have b1 := H4.out.2.2.c 1 rfl
    have b2 := H4.out.2.2.c 2 rfl
    have b3 := H4.out.2.2.c 3 rfl
    have b4 := H4.out.2.2.c 4 rfl
    have b5 := H4.out.2.2.c 5 rfl
    have b6 := H4.out.2.2.c 6 rfl
    have b7 := H4.out.2.2.c 7 rfl
    have b8 := H4.out.2.2.c 8 rfl
    have b9 := H4.out.2.2.c 9 rfl
    have b10 := H4.out.2.2.c 10 rfl
    have b11 := H4.out.2.2.c 11 rfl
    have b12 := H4.out.2.2.c 12 rfl
    have b13 := H4.out.2.2.c 13 rfl
    have b14 := H4.out.2.2.c 14 rfl
    go_wp2_with fail
    refine (to_world t m y z p d o g u n sa sc sl ga gc gl da dc dl ua uc ul na nc nl _ (H4.out.2.1) S.out.1 S.out.2.1.1 S.out.2.2.1 S.out.2.2.2.1.1 S.out.2.2.2.2.1 S.out.2.2.2.1.2 S.out.2.2.2.2.2).mono ?_
    rintro e w5 ⟨sa3, ga3, da3, ua3, us3, na3, ns3, hu3, hn3, rfl, hg, ha3⟩
    have T3 := Lib.hid (And.intro hu3 hn3)
    have gX := World.grownBy_alloc w5 (.cells #[.int .i64 t, .int .i64 m, .int .i64 y, .int .i64 z, .int .i64 p, .int .i64 d, .int .i64 o, .int .i64 g, .int .i64 u, .int .i64 n, .slice sa3 sl.length sl.length, .slice ga3 gl.length gl.length, .slice da3 dl.length dl.length, .slice ua3 us3.length us3.length, .slice na3 ns3.length ns3.length] 40) none
    have H5 := Lib.hid (And.intro (grownBy_trans H4.out.1 (grownBy_trans hg gX)) (And.intro (H4.out.2.1.kept (grownBy_trans hg gX)) (And.intro (ha3.kept gX) (And.intro (H4.out.2.2.keep (grownBy_trans hg gX)) (Bx.new w5 40 #[.int .i64 t, .int .i64 m, .int .i64 y, .int .i64 z, .int .i64 p, .int .i64 d, .int .i64 o, .int .i64 g, .int .i64 u, .int .i64 n, .slice sa3 sl.length sl.length, .slice ga3 gl.length gl.length, .slice da3 dl.length dl.length, .slice ua3 us3.length us3.length, .slice na3 ns3.length ns3.length])))))
    clear hg gX ha3 hu3 hn3 b0 b1 b2 b3 b4 b5 b6 b7 b8 b9 b10 b11 b12 b13 b14 H2 H3 H4
    go_upto_region 7 with fail
    generalize w5.alloc (.cells #[.int .i64 t, .int .i64 m, .int .i64 y, .int .i64 z, .int .i64 p, .int .i64 d, .int .i64 o, .int .i64 g, .int .i64 u, .int .i64 n, .slice sa3 sl.length sl.length, .slice ga3 gl.length gl.length, .slice da3 dl.length dl.length, .slice ua3 us3.length us3.length, .slice na3 ns3.length ns3.length] 40) = w6 at *
    generalize w5.heap.size = X at *
    have c0 := H5.out.2.2.2.2.c 0 rfl
    have c1 := H5.out.2.2.2.2.c 1 rfl
    have c2 := H5.out.2.2.2.2.c 2 rfl
    have c3 := H5.out.2.2.2.2.c 3 rfl
    have c4 := H5.out.2.2.2.2.c 4 rfl
    have c5 := H5.out.2.2.2.2.c 5 rfl
    have c6 := H5.out.2.2.2.2.c 6 rfl
    have c7 := H5.out.2.2.2.2.c 7 rfl
    have c8 := H5.out.2.2.2.2.c 8 rfl
    have c9 := H5.out.2.2.2.2.c 9 rfl
    have c10 := H5.out.2.2.2.2.c 10 rfl
    have c11 := H5.out.2.2.2.2.c 11 rfl
    have c12 := H5.out.2.2.2.2.c 12 rfl
    have c13 := H5.out.2.2.2.2.c 13 rfl
    have c14 := H5.out.2.2.2.2.c 14 rfl
    go_wp2_with fail
    refine (wd_I t m y z p d o g u n sa3 sl.length sl ga3 gl.length gl da3 dl.length dl ua3 us3.length us3 na3 ns3.length ns3 _ H5.out.2.2.1 S.out.2.2.1).mono ?_
    rintro e w7 ⟨rfl, hg⟩
    rw [T3.out.1.2, T3.out.2.2, HK.out]
    have H7 := Lib.hid (And.intro (grownBy_trans H5.out.1 hg) (And.intro (H5.out.2.1.kept hg) (And.intro (H5.out.2.2.1.kept hg) (And.intro (H5.out.2.2.2.1.keep hg) (H5.out.2.2.2.2.keep hg)))))
    clear hg c0 c1 c2 c3 c4 c5 c6 c7 c8 c9 c10 c11 c12 c13 c14 H5 HK
    have hkk : (k != k) = false := by simp
    go_upto_region 10 with fail
    clear hkk
    have H5 := H7
    clear H7
    generalize w7 = w5 at *
    have c0 := H5.out.2.2.2.2.c 0 rfl
    have c1 := H5.out.2.2.2.2.c 1 rfl
    have c2 := H5.out.2.2.2.2.c 2 rfl
    have c3 := H5.out.2.2.2.2.c 3 rfl
    have c4 := H5.out.2.2.2.2.c 4 rfl
    have c5 := H5.out.2.2.2.2.c 5 rfl
    have c6 := H5.out.2.2.2.2.c 6 rfl
    have c7 := H5.out.2.2.2.2.c 7 rfl
    have c8 := H5.out.2.2.2.2.c 8 rfl
    have c9 := H5.out.2.2.2.2.c 9 rfl
    have c10 := H5.out.2.2.2.2.c 10 rfl
    have c11 := H5.out.2.2.2.2.c 11 rfl
    have c12 := H5.out.2.2.2.2.c 12 rfl
    have c13 := H5.out.2.2.2.2.c 13 rfl
    have c14 := H5.out.2.2.2.2.c 14 rfl
    have c15 := H5.out.2.2.2.1.c 0 rfl
    have c16 := H5.out.2.2.2.1.c 1 rfl
    have c17 := H5.out.2.2.2.1.c 2 rfl
    have c18 := H5.out.2.2.2.1.c 3 rfl
    have c19 := H5.out.2.2.2.1.c 4 rfl
    have c20 := H5.out.2.2.2.1.c 5 rfl
    have c21 := H5.out.2.2.2.1.c 6 rfl
    have c22 := H5.out.2.2.2.1.c 7 rfl
    have c23 := H5.out.2.2.2.1.c 8 rfl
    have c24 := H5.out.2.2.2.1.c 9 rfl
    have c25 := H5.out.2.2.2.1.c 10 rfl
    have c26 := H5.out.2.2.2.1.c 11 rfl
    have c27 := H5.out.2.2.2.1.c 12 rfl
    have c28 := H5.out.2.2.2.1.c 13 rfl
    have c29 := H5.out.2.2.2.1.c 14 rfl
    refine wp_region_held_drew (S := fun w' => w'.cell? ⟨X, 0, none⟩ = some (.int .i64 t) ∧ w'.cell? ⟨X, 1, none⟩ = some (.int .i64 m) ∧ w'.cell? ⟨X, 2, none⟩ = some (.int .i64 y) ∧ w'.cell? ⟨X, 3, none⟩ = some (.int .i64 z) ∧ w'.cell? ⟨X, 4, none⟩ = some (.int .i64 p) ∧ w'.cell? ⟨X, 5, none⟩ = some (.int .i64 d) ∧ w'.cell? ⟨X, 6, none⟩ = some (.int .i64 o) ∧ w'.cell? ⟨X, 7, none⟩ = some (.int .i64 g) ∧ w'.cell? ⟨X, 8, none⟩ = some (.int .i64 u) ∧ w'.cell? ⟨X, 9, none⟩ = some (.int .i64 n) ∧ w'.cell? ⟨X, 10, none⟩ = some (.slice sa3 sl.length sl.length) ∧ w'.cell? ⟨X, 11, none⟩ = some (.slice ga3 gl.length gl.length) ∧ w'.cell? ⟨X, 12, none⟩ = some (.slice da3 dl.length dl.length) ∧ w'.cell? ⟨X, 13, none⟩ = some (.slice ua3 us3.length us3.length) ∧ w'.cell? ⟨X, 14, none⟩ = some (.slice na3 ns3.length ns3.length) ∧ w'.cell? ⟨B, 0, none⟩ = some (.int .i64 t) ∧ w'.cell? ⟨B, 1, none⟩ = some (.int .i64 m) ∧ w'.cell? ⟨B, 2, none⟩ = some (.int .i64 y) ∧ w'.cell? ⟨B, 3, none⟩ = some (.int .i64 z) ∧ w'.cell? ⟨B, 4, none⟩ = some (.int .i64 p) ∧ w'.cell? ⟨B, 5, none⟩ = some (.int .i64 d) ∧ w'.cell? ⟨B, 6, none⟩ = some (.int .i64 o) ∧ w'.cell? ⟨B, 7, none⟩ = some (.int .i64 g) ∧ w'.cell? ⟨B, 8, none⟩ = some (.int .i64 u) ∧ w'.cell? ⟨B, 9, none⟩ = some (.int .i64 n) ∧ w'.cell? ⟨B, 10, none⟩ = some (.slice sa sl.length sc) ∧ w'.cell? ⟨B, 11, none⟩ = some (.slice ga gl.length gc) ∧ w'.cell? ⟨B, 12, none⟩ = some (.slice da dl.length dc) ∧ w'.cell? ⟨B, 13, none⟩ = some (.slice ua ul.length uc) ∧ w'.cell? ⟨B, 14, none⟩ = some (.slice na nl.length nc) ∧ w5.grownBy w' none) (by kernel_rfl) (by have hd : w5.grownBy w5.drew none := ⟨rfl, rfl, rfl, Nat.le_refl _, fun _ _ _ => rfl⟩; exact ⟨(hd).cell c0 (by simp), (hd).cell c1 (by simp), (hd).cell c2 (by simp), (hd).cell c3 (by simp), (hd).cell c4 (by simp), (hd).cell c5 (by simp), (hd).cell c6 (by simp), (hd).cell c7 (by simp), (hd).cell c8 (by simp), (hd).cell c9 (by simp), (hd).cell c10 (by simp), (hd).cell c11 (by simp), (hd).cell c12 (by simp), (hd).cell c13 (by simp), (hd).cell c14 (by simp), (hd).cell c15 (by simp), (hd).cell c16 (by simp), (hd).cell c17 (by simp), (hd).cell c18 (by simp), (hd).cell c19 (by simp), (hd).cell c20 (by simp), (hd).cell c21 (by simp), (hd).cell c22 (by simp), (hd).cell c23 (by simp), (hd).cell c24 (by simp), (hd).cell c25 (by simp), (hd).cell c26 (by simp), (hd).cell c27 (by simp), (hd).cell c28 (by simp), (hd).cell c29 (by simp), hd⟩) (fun hS => ?_)
    refine wpAnyH_take (i := 0) (v := ?_) rfl (by kernel_rfl) (by kernel_rfl) (by kernel_rfl) (fun _ _ _ h => h) (Or.inl ⟨by kernel_rfl, ?_⟩) hS ?_
    rotate_left
    · intro w' hSw
      obtain ⟨g0, g1, g2, g3, g4, g5, g6, g7, g8, g9, g10, g11, g12, g13, g14, g15, g16, g17, g18, g19, g20, g21, g22, g23, g24, g25, g26, g27, g28, g29, _⟩ := hSw
      first | (go_simp; done) | (go_simp; with_reducible rfl)
    simp only [List.getElem_toArray, List.getElem_cons_zero, Act.put, List.setIfInBounds_toArray, List.set_cons_zero, List.set_cons_succ]
    refine wpAnyH_take (i := 1) (v := ?_) rfl (by kernel_rfl) (by kernel_rfl) (by kernel_rfl) (fun _ _ _ h => h) (Or.inl ⟨by kernel_rfl, ?_⟩) hS ?_
    rotate_left
    · intro w' hSw
      obtain ⟨g0, g1, g2, g3, g4, g5, g6, g7, g8, g9, g10, g11, g12, g13, g14, g15, g16, g17, g18, g19, g20, g21, g22, g23, g24, g25, g26, g27, g28, g29, _⟩ := hSw
      first | (go_simp; done) | (go_simp; with_reducible rfl)
    simp only [List.getElem_toArray, List.getElem_cons_zero, List.getElem_cons_succ, Act.put, List.setIfInBounds_toArray, List.set_cons_zero, List.set_cons_succ]
    refine wpAnyH_ready (rs := [2]) (by kernel_rfl) (List.cons_ne_nil _ _) ?_
    refine AllReadyH.cons rfl (fun K hK => ?_) AllReadyH.nil
    go_simp
    go_at_call 7
    refine (to_world t m y z p d o g u n sa sc sl ga gc gl da dc dl ua uc ul na nc nl _ (H5.out.2.1.kept (hS.2.2.2.2.2.2.2.2.2.2.2.2.2.2.2.2.2.2.2.2.2.2.2.2.2.2.2.2.2.2)) S.out.1 S.out.2.1.1 S.out.2.2.1 S.out.2.2.2.1.1 S.out.2.2.2.2.1 S.out.2.2.2.1.2 S.out.2.2.2.2.2).mono ?_
    rintro e u1 ⟨sa5, ga5, da5, ua5, us5, na5, ns5, hu5, hn5, rfl, hg, ha5⟩
    have T5 := Lib.hid (And.intro hu5 (And.intro hn5 ha5))
    clear hu5 hn5 ha5
    have hF := grownBy_trans (hS.2.2.2.2.2.2.2.2.2.2.2.2.2.2.2.2.2.2.2.2.2.2.2.2.2.2.2.2.2.2) hg
    clear hg
    refine hK.out _ _ (⟨(hF).cell c0 (by simp), (hF).cell c1 (by simp), (hF).cell c2 (by simp), (hF).cell c3 (by simp), (hF).cell c4 (by simp), (hF).cell c5 (by simp), (hF).cell c6 (by simp), (hF).cell c7 (by simp), (hF).cell c8 (by simp), (hF).cell c9 (by simp), (hF).cell c10 (by simp), (hF).cell c11 (by simp), (hF).cell c12 (by simp), (hF).cell c13 (by simp), (hF).cell c14 (by simp), (hF).cell c15 (by simp), (hF).cell c16 (by simp), (hF).cell c17 (by simp), (hF).cell c18 (by simp), (hF).cell c19 (by simp), (hF).cell c20 (by simp), (hF).cell c21 (by simp), (hF).cell c22 (by simp), (hF).cell c23 (by simp), (hF).cell c24 (by simp), (hF).cell c25 (by simp), (hF).cell c26 (by simp), (hF).cell c27 (by simp), (hF).cell c28 (by simp), (hF).cell c29 (by simp), hF⟩) (fun hS => ?_)
    clear hF
    clear hK
    try simp only [List.getElem_toArray, List.getElem_cons_zero, List.getElem_cons_succ, Act.put, List.setIfInBounds_toArray, List.set_cons_zero, List.set_cons_succ]
    refine wpAnyH_ready (rs := [3]) (by kernel_rfl) (List.cons_ne_nil _ _) ?_
    refine AllReadyH.cons rfl (fun K hK => ?_) AllReadyH.nil
    go_simp
    go_at_call 9
    refine (eq_world t m y z p d o g u n sa3 sl.length sl ga3 gl.length gl da3 dl.length dl ua3 us3.length us3 na3 ns3.length ns3 sa5 sl.length ga5 gl.length da5 dl.length ua5 us5.length us5 na5 ns5.length ns5 _ (H5.out.2.2.1.kept (hS.2.2.2.2.2.2.2.2.2.2.2.2.2.2.2.2.2.2.2.2.2.2.2.2.2.2.2.2.2.2)) T5.out.2.2 (T3.out.1.2.trans T5.out.1.2.symm) (T3.out.2.2.trans T5.out.2.1.2.symm) (T5.out.1.1.trans T3.out.1.1.symm) (T5.out.2.1.1.trans T3.out.2.1.symm) S.out.1 S.out.2.1.1 S.out.2.2.1 (by rw [T3.out.1.1]; exact S.out.2.2.2.1.1) (by rw [T3.out.2.1]; exact S.out.2.2.2.2.1) (o_small T3.out.1.2 S.out.2.2.2.1.2) (o_small T3.out.2.2 S.out.2.2.2.2.2)).mono ?_
    rintro e u1 ⟨rfl, hg⟩
    have hF := grownBy_trans (hS.2.2.2.2.2.2.2.2.2.2.2.2.2.2.2.2.2.2.2.2.2.2.2.2.2.2.2.2.2.2) hg
    clear hg
    refine hK.out _ _ (⟨(hF).cell c0 (by simp), (hF).cell c1 (by simp), (hF).cell c2 (by simp), (hF).cell c3 (by simp), (hF).cell c4 (by simp), (hF).cell c5 (by simp), (hF).cell c6 (by simp), (hF).cell c7 (by simp), (hF).cell c8 (by simp), (hF).cell c9 (by simp), (hF).cell c10 (by simp), (hF).cell c11 (by simp), (hF).cell c12 (by simp), (hF).cell c13 (by simp), (hF).cell c14 (by simp), (hF).cell c15 (by simp), (hF).cell c16 (by simp), (hF).cell c17 (by simp), (hF).cell c18 (by simp), (hF).cell c19 (by simp), (hF).cell c20 (by simp), (hF).cell c21 (by simp), (hF).cell c22 (by simp), (hF).cell c23 (by simp), (hF).cell c24 (by simp), (hF).cell c25 (by simp), (hF).cell c26 (by simp), (hF).cell c27 (by simp), (hF).cell c28 (by simp), (hF).cell c29 (by simp), hF⟩) (fun hS => ?_)
    clear hF
    clear hK
    try simp only [List.getElem_toArray, List.getElem_cons_zero, List.getElem_cons_succ, Act.put, List.setIfInBounds_toArray, List.set_cons_zero, List.set_cons_succ]
    refine wpAnyH_take (i := 4) (v := ?_) rfl (by kernel_rfl) (by kernel_rfl) (by kernel_rfl) (fun _ _ _ h => h) (Or.inl ⟨by kernel_rfl, ?_⟩) hS ?_
    rotate_left
    · intro w' hSw
      obtain ⟨g0, g1, g2, g3, g4, g5, g6, g7, g8, g9, g10, g11, g12, g13, g14, g15, g16, g17, g18, g19, g20, g21, g22, g23, g24, g25, g26, g27, g28, g29, _⟩ := hSw
      first | (go_simp; done) | (go_simp; with_reducible rfl)
    simp only [List.getElem_toArray, List.getElem_cons_zero, List.getElem_cons_succ, Act.put, List.setIfInBounds_toArray, List.set_cons_zero, List.set_cons_succ]
    refine wpAnyH_done (by kernel_rfl) ?_ _
    go_wp2_with fail
    go_ret
    exact ⟨rfl, below_new (grownBy_trans H5.out.1 (hS.2.2.2.2.2.2.2.2.2.2.2.2.2.2.2.2.2.2.2.2.2.2.2.2.2.2.2.2.2.2))⟩

set_option maxRecDepth 100000 in
set_option maxHeartbeats 4000000 in
theorem lifted (os : Os) (started : os.Started) (H : Type) (enc : TypeId × Value → H) :
    ReturnsInHanded {} Try.checked os 3 .any (Rows.fnExactWorldOkSpec.pre6 enc Try.prog Try.f3 Rows.fnExactWorldOkRow.domain false) (Rows.fnExactWorldOkSpec.post enc Try.prog Try.f3 false true false false) := by
  refine returnsInHanded_of_change (C := Try.checked) own started (by kernel_rfl) Try.func3
    (ChangeSpec.witness6 (enc := enc) (C := Try.checked) false ⟨#[], #[.agg #[.int .i64 0, .int .i64 0, .int .i64 0, .int .i64 0, .int .i64 0, .int .i64 0, .int .i64 0, .int .i64 0, .int .i64 0, .int .i64 0, .slice none 0 0, .slice none 0 0, .slice none 0 0, .slice none 0 0, .slice none 0 0]], []⟩ 8 (by kernel_rfl) (by kernel_rfl) (by kernel_rfl) (by kernel_rfl)) ?_
  intro W base args ds gs before hval0 hW hcnd _
  have hval : ∀ (j : Nat) t v, Try.f3.params[j]? = some t → args[j]? = some v → Value.okWide Try.prog W .any base t v := hval0
  have hW' := hW
  obtain ⟨p, q, hA0, hV, rfl, hfz, hnd⟩ := hW
  have hA : DataW.TrodAll enc Try.prog W 0 (fun _ => true) true Try.f3.params.toList args.toList ds p := hA0
  rw [Try.params3] at hA hval
  obtain ⟨v0, vs0, d0, ds0, p0, q0, hargs, rfl, rfl, h0, r0⟩ := trodAll_cons hA
  obtain ⟨rfl, rfl, rfl⟩ := trodAll_nil r0
  obtain rfl : args = #[v0] := by cases args; simp_all
  obtain ⟨rfl, rfl⟩ := trodVars_none hV
  have k0 := h0
  have lt0 : ∀ x ∈ p0, x.block < W.heap.size := by obtain ⟨m, hm⟩ := k0; exact DataW.trod_lt m _ _ _ hm
  obtain ⟨i0, i1, i2, i3, i4, i5, i6, i7, i8, i9, sa, sc, sl, ga, gc, gl, da, dc, dl, ua, uc, ul, na, nc, nl, rfl, w0, ns0, ng0, nd0, nu0, nn0⟩ := open_world (hval 0 30 v0 rfl rfl) h0
  clear hA0 hval0
  refine (walk i0 i1 i2 i3 i4 i5 i6 i7 i8 i9 sa sc sl ga gc gl da dc dl ua uc ul na nc nl W w0 ns0 ng0 nd0 nu0 nn0).mono fun e W' ⟨he, bel⟩ => ?_
  subst he
  exact ⟨_, rfl, _, _, _, [], _, [], hW', trodAll_mk1 (shut_bool Try.underlying4 _), (trodAll_cons_mk (Below.trod laidOut (by kernel_rfl) (of_decide_eq_true (by kernel_rfl)) k0 bel lt0) trodAll_mk0), rfl, bel.frame _, fun h => by cases h⟩

theorem over : Rows.fnExactWorldOkRow.holds Try.pinned (OpenSpec.ofChange Rows.fnExactWorldOkSpec) :=
  OpenClaim.holds_of_wide 3 Try.f3 rfl rfl rfl rfl rfl rfl rfl ⟨rfl, rfl, rfl, rfl, rfl⟩ rfl rfl rfl rfl rfl (by kernel_rfl) Try.func3 (by kernel_rfl)
    (of_decide_eq_true (by kernel_rfl)) (by unfold Func.isWrapper; first | (rw [if_pos (by decide +kernel)]; kernel_rfl) | (rw [if_neg (by decide +kernel)]; exact ⟨rfl, rfl⟩))
    (fun os started H enc _ => lifted os started H enc)

theorem proved : Rows.FnExactWorldOkSaid := over
end Go.Proofs.Yteffpcgmoegomaa.fnExactWorldOk
