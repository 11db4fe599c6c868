/- A world as an argument: opened. -/
import Derived.Test.YteffpcgmoegomaaWdD
import Derived.Test.YteffpcgmoegomaaAgg
import Derived.Lib.SmallJoins
import Derived.Deep.SlicePairs
namespace Go.Proofs.Yteffpcgmoegomaa
open Go.RowKit Go.ChangeShapes Go.WideShapes Go.Joins
open P7 (Pk PkAt pkAt_of)

theorem cells89 : Try.prog.cellsOf 89 = 2 := by kernel_rfl

theorem cells82 : Try.prog.cellsOf 82 = 2 := by kernel_rfl

theorem cells85 : Try.prog.cellsOf 85 = 4 := by kernel_rfl

theorem cellsWd : Try.prog.cellsOf 30 = 15 ∧ Try.prog.cellsOf 23 = 7 ∧ Try.prog.cellsOf 26 = 3 ∧ Try.prog.cellsOf 2 = 1 ∧ Try.prog.cellsOf 24 = 1 ∧ Try.prog.cellsOf 27 = 1 ∧ Try.prog.cellsOf 28 = 1 := by refine ⟨?_, ?_, ?_, ?_, ?_, ?_, ?_⟩ <;> kernel_rfl

theorem field_rgs {H : Type} {enc : TypeId × Value → H} {W : World} {base : Nat} {spare : Nat → Bool} {held : Bool} {v : Value} {fu : Nat} {y : DataW H × List MemPlace} (hy : DataW.trod enc Try.prog W base spare held fu 24 [v] = some y) : ∃ (a : Option Addr) (c : Nat) (l : List Rg), v = .slice a l.length c ∧ RgAt W a l ∧ l.length ≤ maxLen := by
  obtain ⟨a, len, cap, e⟩ := slice_form Try.underlying24 hy
  simp only [List.cons.injEq, and_true] at e
  subst e
  obtain ⟨l, e, hw, hn⟩ : ∃ l : List Rg, l.length = len ∧ RgAt W a l ∧ l.length ≤ maxLen := by
    rcases Deep.open_slice_pairs Try.underlying24 Try.underlying89 cells89 rfl rfl (by kernel_rfl) (by kernel_rfl) hy with ⟨hcs, _⟩ | ⟨x, l, c, m, n, V0, V1, D0, D1, P0, P1, hcs, _, hl, hm, hmm, _, hall⟩
    · simp at hcs
      obtain ⟨rfl, rfl, rfl⟩ := hcs
      exact ⟨[], rfl, .inl rfl, Nat.zero_le _⟩
    · simp at hcs
      obtain ⟨rfl, rfl, rfl⟩ := hcs
      have hmc : len ≤ m := by rw [hmm]; split <;> omega
      obtain ⟨ps, hlen, hps⟩ := list_of (P := fun i (p : Rg) => W.cell? (x.add (i * 2)) = some (.int .i64 p.1) ∧ W.cell? (x.add (i * 2 + 1)) = some (.int .i64 p.2)) len (fun i hi => by
        obtain ⟨c0, c1, t0, t1⟩ := hall i (by omega)
        obtain ⟨u, e0, _, wu⟩ := DataW.trod_int Try.underlying2 t0
        obtain ⟨s, e1, _, ws⟩ := DataW.trod_int Try.underlying2 t1
        simp only [List.cons.injEq, and_true] at e0 e1
        rw [e0] at c0
        rw [e1] at c1
        exact ⟨(u, s), c0, c1⟩)
      exact ⟨ps, hlen, rgAt_of fun i hi => ⟨(hps i hi).1, (hps i hi).2⟩, by omega⟩
  subst e
  exact ⟨a, cap, l, rfl, hw, hn⟩

theorem field_pks {H : Type} {enc : TypeId × Value → H} {W : World} {base : Nat} {spare : Nat → Bool} {held : Bool} {v : Value} {fu : Nat} {y : DataW H × List MemPlace} (hy : DataW.trod enc Try.prog W base spare held fu 27 [v] = some y) : ∃ (a : Option Addr) (c : Nat) (l : List Pk), v = .slice a l.length c ∧ PkAt W a l ∧ l.length ≤ maxLen ∧ ∀ x ∈ l, x.2.length ≤ maxLen := by
  obtain ⟨a, len, cap, e⟩ := slice_form Try.underlying27 hy
  simp only [List.cons.injEq, and_true] at e
  subst e
  obtain ⟨l, e, hw, hn, hm⟩ : ∃ l : List Pk, l.length = len ∧ PkAt W a l ∧ l.length ≤ maxLen ∧ ∀ x ∈ l, x.2.length ≤ maxLen := by
    rcases Deep.open_slice_pairs Try.underlying27 Try.underlying82 cells82 rfl rfl (by kernel_rfl) (by kernel_rfl) hy with ⟨hcs, _⟩ | ⟨x, l, c, m, n, V0, V1, D0, D1, P0, P1, hcs, _, hl, hm, hmm, _, hall⟩
    · simp at hcs
      obtain ⟨rfl, rfl, rfl⟩ := hcs
      exact ⟨[], rfl, .inl rfl, Nat.zero_le _, by simp⟩
    · simp at hcs
      obtain ⟨rfl, rfl, rfl⟩ := hcs
      have hmc : len ≤ m := by rw [hmm]; split <;> omega
      obtain ⟨ps, hlen, hps⟩ := list_of (P := fun i (p : Pk) => W.cell? (x.add (i * 2)) = some (.int .i64 p.1) ∧ W.cell? (x.add (i * 2 + 1)) = some (.string ⟨p.2.toArray⟩) ∧ p.2.length ≤ maxLen) len (fun i hi => by
        obtain ⟨c0, c1, t0, t1⟩ := hall i (by omega)
        obtain ⟨u, e0, _, wu⟩ := DataW.trod_int Try.underlying2 t0
        obtain ⟨s, e1, _, ws⟩ := DataW.trod_string Try.underlying9 t1
        simp only [List.cons.injEq, and_true] at e0 e1
        rw [e0] at c0
        rw [e1] at c1
        exact ⟨(u, s.data.toList), c0, by simpa using c1, ws⟩)
      refine ⟨ps, hlen, pkAt_of fun i hi => ⟨(hps i hi).1, (hps i hi).2.1⟩, by omega, fun x hx => ?_⟩
      obtain ⟨i, hi, rfl⟩ := List.getElem_of_mem hx
      exact (hps i hi).2.2
  subst e
  exact ⟨a, cap, l, rfl, hw, hn, hm⟩

theorem field_nts {H : Type} {enc : TypeId × Value → H} {W : World} {base : Nat} {spare : Nat → Bool} {held : Bool} {v : Value} {fu : Nat} {y : DataW H × List MemPlace} (hy : DataW.trod enc Try.prog W base spare held fu 28 [v] = some y) : ∃ (a : Option Addr) (c : Nat) (l : List Nt), v = .slice a l.length c ∧ NtAt W a l ∧ l.length ≤ maxLen ∧ ∀ x ∈ l, x.l.length ≤ maxLen := by
  obtain ⟨a, len, cap, e⟩ := slice_form Try.underlying28 hy
  simp only [List.cons.injEq, and_true] at e
  subst e
  obtain ⟨l, e, hw, hn, hm⟩ : ∃ l : List Nt, l.length = len ∧ NtAt W a l ∧ l.length ≤ maxLen ∧ ∀ x ∈ l, x.l.length ≤ maxLen := by
    rcases open_fours Try.underlying28 Try.underlying85 cells85 ⟨rfl, rfl, rfl, rfl⟩ (by refine ⟨?_, ?_, ?_, ?_⟩ <;> kernel_rfl) hy with hcs | ⟨x, l, c, n, hcs, hl, hm, hall⟩
    · simp at hcs
      obtain ⟨rfl, rfl, rfl⟩ := hcs
      exact ⟨[], rfl, .inl rfl, Nat.zero_le _, by simp⟩
    · simp at hcs
      obtain ⟨rfl, rfl, rfl⟩ := hcs
      obtain ⟨ps, hlen, hps⟩ := list_of (P := fun i (p : Nt) => NtX W x i p ∧ p.l.length ≤ maxLen) len (fun i hi => by
        obtain ⟨v0, v1, v2, v3, y0, y1, y2, y3, c0, c1, c2, c3, t0, t1, t2, t3⟩ := hall i hi
        obtain ⟨u0, e0, _, _⟩ := DataW.trod_int Try.underlying2 t0
        simp only [List.cons.injEq, and_true] at e0
        rw [e0] at c0
        obtain ⟨u1, e1, _, _⟩ := DataW.trod_int Try.underlying2 t1
        simp only [List.cons.injEq, and_true] at e1
        rw [e1] at c1
        obtain ⟨u2, e2, _, _⟩ := DataW.trod_int Try.underlying2 t2
        simp only [List.cons.injEq, and_true] at e2
        rw [e2] at c2
        obtain ⟨sa, sc, sl, e3, sw, sn⟩ := field_rgs t3
        subst e3
        exact ⟨⟨u0, u1, u2, sa, sc, sl⟩, ⟨c0, c1, c2, c3, sw⟩, sn⟩)
      refine ⟨ps, hlen, ntAt_of fun i hi => (hps i hi).1, by omega, fun x hx => ?_⟩
      obtain ⟨i, hi, rfl⟩ := List.getElem_of_mem hx
      exact (hps i hi).2
  subst e
  exact ⟨a, cap, l, rfl, hw, hn, hm⟩

set_option maxRecDepth 100000 in
theorem array15 {α : Type} {cs : Array α} (h : cs.size = 15) : ∃ c0 c1 c2 c3 c4 c5 c6 c7 c8 c9 c10 c11 c12 c13 c14, cs = #[c0, c1, c2, c3, c4, c5, c6, c7, c8, c9, c10, c11, c12, c13, c14] := by
  obtain ⟨l⟩ := cs
  match l, h with
  | [c0, c1, c2, c3, c4, c5, c6, c7, c8, c9, c10, c11, c12, c13, c14], _ => exact ⟨c0, c1, c2, c3, c4, c5, c6, c7, c8, c9, c10, c11, c12, c13, c14, rfl⟩

set_option maxRecDepth 100000 in
theorem open_world {H : Type} {enc : TypeId × Value → H} {W : World} {base : Nat} {spare : Nat → Bool} {held : Bool} {r : Reach} {b0 : Nat} {v : Value} {dd : DataW H} {pp : List MemPlace} (hv : Value.okWide Try.prog W r b0 30 v) (h : DataW.Trod enc Try.prog W base spare held 30 v dd pp) :
    ∃ (t m y z p d o g u n : Int) (sa : Option Addr) (sc : Nat) (sl : List Rg) (ga : Option Addr) (gc : Nat) (gl : List Pk) (da : Option Addr) (dc : Nat) (dl : List Rg) (ua : Option Addr) (uc : Nat) (ul : List Nt) (na : Option Addr) (nc : Nat) (nl : List Nt), v = .agg #[.int .i64 t, .int .i64 m, .int .i64 y, .int .i64 z, .int .i64 p, .int .i64 d, .int .i64 o, .int .i64 g, .int .i64 u, .int .i64 n, .slice sa sl.length sc, .slice ga gl.length gc, .slice da dl.length dc, .slice ua ul.length uc, .slice na nl.length nc] ∧ WdAt W sa sl ga gl da dl ua ul na nl ∧ sl.length ≤ maxLen ∧ (gl.length ≤ maxLen ∧ ∀ x ∈ gl, x.2.length ≤ maxLen) ∧ dl.length ≤ maxLen ∧ (ul.length ≤ maxLen ∧ ∀ x ∈ ul, x.l.length ≤ maxLen) ∧ (nl.length ≤ maxLen ∧ ∀ x ∈ nl, x.l.length ≤ maxLen) := by
  obtain ⟨q0, q1, q2, q3, q4, q5, q6⟩ := cellsWd
  obtain ⟨cs, rfl, hsz⟩ := okWide_struct Try.underlying30 hv
  obtain ⟨c0, c1, c2, c3, c4, c5, c6, c7, c8, c9, c10, c11, c12, c13, c14, rfl⟩ := array15 (hsz.trans q0)
  obtain ⟨fuel, hf⟩ := h
  obtain ⟨xs, n1, _, _, _, hlen, hx⟩ := DataW.trod_struct Try.underlying30 hf
  match xs, hlen with
  | [x0, x1, x2, x3, x4, x5, x6], _ =>
    have h0 := hx 0 _ rfl
    have h1 := hx 1 _ rfl
    have h2 := hx 2 _ rfl
    have h3 := hx 3 _ rfl
    have h4 := hx 4 _ rfl
    have h5 := hx 5 _ rfl
    have h6 := hx 6 _ rfl
    simp [Value.cells, q1, q2, q3, q4, q5, q6] at h0 h1 h2 h3 h4 h5 h6
    obtain ⟨ys, n2, _, _, _, hl2, hy⟩ := DataW.trod_struct Try.underlying23 h1
    obtain ⟨zs, n3, _, _, _, hl3, hz⟩ := DataW.trod_struct Try.underlying26 h2
    match ys, hl2 with
    | [y0, y1, y2, y3, y4, y5, y6], _ =>
      match zs, hl3 with
      | [z0, z1, z2], _ =>
        have g0 := hy 0 _ rfl
        have g1 := hy 1 _ rfl
        have g2 := hy 2 _ rfl
        have g3 := hy 3 _ rfl
        have g4 := hy 4 _ rfl
        have g5 := hy 5 _ rfl
        have g6 := hy 6 _ rfl
        have k0 := hz 0 _ rfl
        have k1 := hz 1 _ rfl
        have k2 := hz 2 _ rfl
        simp [q3] at g0 g1 g2 g3 g4 g5 g6
        simp [q3, q4] at k0 k1 k2
        obtain ⟨i0, e, _, _⟩ := DataW.trod_int Try.underlying2 h0
        simp only [List.cons.injEq, and_true] at e
        subst e
        obtain ⟨i1, e, _, _⟩ := DataW.trod_int Try.underlying2 g0
        simp only [List.cons.injEq, and_true] at e
        subst e
        obtain ⟨i2, e, _, _⟩ := DataW.trod_int Try.underlying2 g1
        simp only [List.cons.injEq, and_true] at e
        subst e
        obtain ⟨i3, e, _, _⟩ := DataW.trod_int Try.underlying2 g2
        simp only [List.cons.injEq, and_true] at e
        subst e
        obtain ⟨i4, e, _, _⟩ := DataW.trod_int Try.underlying2 g3
        simp only [List.cons.injEq, and_true] at e
        subst e
        obtain ⟨i5, e, _, _⟩ := DataW.trod_int Try.underlying2 g4
        simp only [List.cons.injEq, and_true] at e
        subst e
        obtain ⟨i6, e, _, _⟩ := DataW.trod_int Try.underlying2 g5
        simp only [List.cons.injEq, and_true] at e
        subst e
        obtain ⟨i7, e, _, _⟩ := DataW.trod_int Try.underlying2 g6
        simp only [List.cons.injEq, and_true] at e
        subst e
        obtain ⟨i8, e, _, _⟩ := DataW.trod_int Try.underlying2 k0
        simp only [List.cons.injEq, and_true] at e
        subst e
        obtain ⟨i9, e, _, _⟩ := DataW.trod_int Try.underlying2 k1
        simp only [List.cons.injEq, and_true] at e
        subst e
        obtain ⟨sa, sc, sl, rfl, ws, ns⟩ := field_rgs k2
        obtain ⟨ga, gc, gl, rfl, wg, ng, mg⟩ := field_pks h3
        obtain ⟨da, dc, dl, rfl, wd, nd⟩ := field_rgs h4
        obtain ⟨ua, uc, ul, rfl, wu, nu, mu⟩ := field_nts h5
        obtain ⟨na, nc, nl, rfl, wn, nn, mn⟩ := field_nts h6
        exact ⟨i0, i1, i2, i3, i4, i5, i6, i7, i8, i9, sa, sc, sl, ga, gc, gl, da, dc, dl, ua, uc, ul, na, nc, nl, rfl, ⟨ws, wg, wd, wu, wn⟩, ns, ⟨ng, mg⟩, nd, ⟨nu, mu⟩, nn, mn⟩

end Go.Proofs.Yteffpcgmoegomaa
