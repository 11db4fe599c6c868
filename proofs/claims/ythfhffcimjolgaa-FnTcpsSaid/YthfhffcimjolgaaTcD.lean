/- The drawing of a segment. -/
import Derived.Test.YthfhffcimjolgaaBxT
import Derived.Test.YthfhffcimjolgaaDrawB
import Derived.LoopTactic
namespace Go.Proofs.Ythfhffcimjolgaa
open Go.RowKit

theorem grownBy_drw {a : World} {r : Option Nat} : a.grownBy a.drew r := ⟨rfl, rfl, rfl, Nat.le_refl _, fun _ _ _ => rfl⟩
theorem t_slice {w : World} {base : Nat} {e : TypeId} {v : Value} {n s : Nat} {xs : List Value} (h : w.ownsRow base e s v n xs) : ∃ ao c, v = .slice ao n c := by
  rcases h.2 with ⟨hv, h0⟩ | ⟨g, cap', cur, hv, _⟩
  · exact ⟨none, 0, by rw [hv, h0]⟩
  · exact ⟨_, _, hv⟩
theorem t_far {W W2 : World} {base n s : Nat} {e : TypeId} {v : Value} {xs : List Value} {row : Option Nat} (h : W.ownsRow base e s v n xs) (hg : W.grownBy W2 row) (hne : ∀ g, v.ownBlock = some g → some g ≠ row) : W2.ownsRow base e s v n xs := by
  refine h.kept hg ?_
  cases hv : v.ownBlock with
  | none => exact .inl rfl
  | some g => exact .inr (hne g hv)
theorem t_base {w : World} {B B' : Nat} {e : TypeId} {v : Value} {n s : Nat} {xs : List Value} (h : w.ownsRow B e s v n xs) (hB : B' ≤ B) : w.ownsRow B' e s v n xs := by
  rcases h with ⟨h1, h2 | ⟨g, cap, cur, h3, h4, h5⟩⟩
  · exact ⟨h1, .inl h2⟩
  · exact ⟨h1, .inr ⟨g, cap, cur, h3, Nat.le_trans hB h4, h5⟩⟩
theorem t_set (w : World) (C o : Nat) (x : Value) : w.grownBy (w.setCell ⟨C, o, none⟩ x) (some C) :=
  ⟨rfl, rfl, rfl, by simp [World.setCell], fun i _ hne => Below.heap_setCell _ _ _ i (by simp; intro e; exact hne (by rw [e]))⟩
theorem t_at {w : World} {base c : Nat} {e : TypeId} {a : Option Addr} {l : List Rg} (h : w.ownsRow base e 2 (.slice a l.length c) l.length (rgsV l)) : RgAt w a l := by
  rcases h.2 with ⟨hv, h0⟩ | ⟨g, cap', cur, hv, _⟩
  · exact .inl (List.length_eq_zero_iff.mp h0)
  · simp at hv
    obtain ⟨rfl, rfl⟩ := hv
    exact rgAt_own h rfl
theorem t_new {a b c : World} {r : Nat} (h : a.grownBy b none) (k : b.grownBy c (some r)) (hr : a.heap.size ≤ r) : a.grownBy c none :=
  ⟨k.os.trans h.os, k.tape.trans h.tape, k.output.trans h.output, Nat.le_trans h.size k.size, fun i hi hne => (k.block i (Nat.lt_of_lt_of_le hi h.size) (by simp; omega)).trans (h.block i hi hne)⟩
/-- Where the drawing of a segment stands: the reader, the result's block, the segment's own block and row. -/
structure TS (w : World) (r C : Nat) (f o s k g n : Int) (a : Option Addr) (c : Nat) (l : List Rg) (d : List UInt8) (W : World) : Prop where
  lr : r < w.heap.size
  lt : w.heap.size < C
  gw : w.grownBy W (some r)
  rd : RdOk W r
  res : Bx W w.heap.size 26 #[.int .i64 0, .int .i64 0, .int .i64 0, .int .i64 0, .int .i64 0, .int .i64 0, .slice none 0 0, .string ⟨#[]⟩]
  box : Bx W C 26 #[.int .i64 f, .int .i64 o, .int .i64 s, .int .i64 k, .int .i64 g, .int .i64 n, .slice a l.length c, .string ⟨d.toArray⟩]
  row : W.ownsRow (w.heap.size + 1) 61 2 (.slice a l.length c) l.length (rgsV l)
  far : ∀ q, Value.ownBlock (.slice a l.length c) = some q → q ≠ C
theorem TS.move {w W W2 : World} {r C : Nat} {f o s k g n : Int} {a : Option Addr} {c : Nat} {l : List Rg} {d : List UInt8} (h : TS w r C f o s k g n a c l d W) (hg : W.grownBy W2 (some r)) (hr : RdOk W2 r) : TS w r C f o s k g n a c l d W2 := by
  have h1 := h.lr
  have h2 := h.lt
  exact ⟨h.lr, h.lt, grownBy_trans h.gw hg, hr, h.res.kept hg (by simp; omega), h.box.kept hg (by simp; omega), t_far h.row hg (fun q hq => by have := (h.row.lt q hq).1; simp; omega), h.far⟩
theorem TS.keep {w W W2 : World} {r C : Nat} {f o s k g n : Int} {a : Option Addr} {c : Nat} {l : List Rg} {d : List UInt8} (h : TS w r C f o s k g n a c l d W) (hg : W.grownBy W2 none) : TS w r C f o s k g n a c l d W2 :=
  h.move (gE hg) (h.rd.kept hg (by simp) (by simp))
/-- A store into the segment's own block. -/
theorem TS.st {w W : World} {r C : Nat} {f o s k g n : Int} {a : Option Addr} {c : Nat} {l : List Rg} {d : List UInt8} {f' g' : Int} (h : TS w r C f o s k g n a c l d W) (i : Nat) (x : Value) (hx : Bx (W.setCell ⟨C, i, none⟩ x) C 26 #[.int .i64 f', .int .i64 o, .int .i64 s, .int .i64 k, .int .i64 g', .int .i64 n, .slice a l.length c, .string ⟨d.toArray⟩]) : TS w r C f' o s k g' n a c l d (W.setCell ⟨C, i, none⟩ x) := by
  have h1 := h.lr
  have h2 := h.lt
  have hg := t_set W C i x
  exact ⟨h.lr, h.lt, gSr h.gw (by omega) _ _, h.rd.kept hg (by simp; omega) (fun q e => by cases e; omega), h.res.other (by omega) _ _, hx, t_far h.row hg (fun q hq => by simp; exact h.far q hq), h.far⟩
/-- One range more, appended and stored. -/
theorem TS.app {w W V wz : World} {r C : Nat} {f o s k g n : Int} {a : Option Addr} {c : Nat} {l : List Rg} {d : List UInt8} {x y : Int} {v : Value} (h : TS w r C f o s k g n a c l d W) (ha : W.grownBy V none) (hg : V.grownBy wz (Value.ownBlock (.slice a l.length c))) (ho : wz.ownsRow (w.heap.size + 1) 61 2 v (l.length + 1) (rgsV l ++ [.int .i64 x, .int .i64 y])) (hf : ∀ q, v.ownBlock = some q → q ≠ C) : ∃ (a2 : Option Addr) (c2 : Nat), v = .slice a2 (l ++ [(x, y)]).length c2 ∧ TS w r C f o s k g n a2 c2 (l ++ [(x, y)]) d (wz.setCell ⟨C, 6, none⟩ v) := by
  have h1 := h.lr
  have h2 := h.lt
  obtain ⟨a2, c2, rfl⟩ := t_slice ho
  have e1 : rgsV (l ++ [(x, y)]) = rgsV l ++ [.int .i64 x, .int .i64 y] := by simp [rgsV, rgV]
  have e2 : (l ++ [(x, y)]).length = l.length + 1 := by simp
  have hV := h.keep ha
  have hq : ∀ q, Value.ownBlock (.slice a l.length c) = some q → w.heap.size + 1 ≤ q := fun q hq => (h.row.lt q hq).1
  have hz : w.grownBy wz (some r) := by
    refine ⟨hg.os.trans hV.gw.os, hg.tape.trans hV.gw.tape, hg.output.trans hV.gw.output, Nat.le_trans hV.gw.size hg.size, fun i hi hne => (hg.block i (Nat.lt_of_lt_of_le hi hV.gw.size) (fun e => by have := hq i e.symm; omega)).trans (hV.gw.block i hi hne)⟩
  have hs := t_set wz C 6 (.slice a2 (l.length + 1) c2)
  have hrd : RdOk wz r := hV.rd.kept hg (fun e => by have := hq r e.symm; omega) (fun q e => by have := hq q e; omega)
  have hres := hV.res.kept hg (fun e => by have := hq _ e.symm; omega)
  have hbox := hV.box.kept hg (fun e => h.far C e.symm rfl)
  refine ⟨a2, c2, by rw [e2], h.lr, h.lt, gSr hz (by omega) _ _, hrd.kept hs (by simp; omega) (fun q e => by cases e; omega), hres.other (by omega) _ _, ?_, ?_, ?_⟩
  · rw [e2]
    exact hbox.s 6 _
  · rw [e1, e2]
    exact t_far ho hs (fun q hq => by simp; exact hf q hq)
  · rw [e2]
    exact hf
def TcRel (w : World) (r C : Nat) (s k n : Int) (d : List UInt8) (i : Value) (wr : World) : Prop :=
  ∃ (j : Nat) (a : Option Addr) (c : Nat) (l : List Rg), j + l.length ≤ 2 ∧ i = .int .i64 (j : Nat) ∧ TS w r C 1000 80 s k 16 n a c l d wr
def TcPost (w : World) (r : Nat) (e : Ending) (w' : World) : Prop :=
  ∃ (f o s k g n : Int) (a : Option Addr) (c : Nat) (l : List Rg) (d : List UInt8), e = .returned (tcpV f o s k g n a c l d) ∧ l.length ≤ 2 ∧ w.grownBy w' (some r) ∧ RdOk w' r ∧ w'.ownsRow (w.heap.size + 1) 61 2 (.slice a l.length c) l.length (rgsV l)
theorem TS.fin {w W : World} {r C : Nat} {f o s k g n : Int} {a : Option Addr} {c : Nat} {l : List Rg} {d : List UInt8} (h : TS w r C f o s k g n a c l d W) : ∀ W2, W.grownBy W2 (some w.heap.size) → w.grownBy W2 (some r) ∧ RdOk W2 r ∧ W2.ownsRow (w.heap.size + 1) 61 2 (.slice a l.length c) l.length (rgsV l) := by
  intro W2 hg
  have h1 := h.lr
  refine ⟨⟨hg.os.trans h.gw.os, hg.tape.trans h.gw.tape, hg.output.trans h.gw.output, Nat.le_trans h.gw.size hg.size, fun i hi hne => (hg.block i (Nat.lt_of_lt_of_le hi h.gw.size) (by simp; omega)).trans (h.gw.block i hi hne)⟩, h.rd.kept hg (by simp; omega) (fun q e => by cases e; omega), t_far h.row hg (fun q hq => by have := (h.row.lt q hq).1; simp; omega)⟩
theorem t_eight (W : World) (B : Nat) (v0 v1 v2 v3 v4 v5 v6 v7 : Value) : W.grownBy ((((((((W.setCell ⟨B, 0, none⟩ v0).setCell ⟨B, 1, none⟩ v1).setCell ⟨B, 2, none⟩ v2).setCell ⟨B, 3, none⟩ v3).setCell ⟨B, 4, none⟩ v4).setCell ⟨B, 5, none⟩ v5).setCell ⟨B, 6, none⟩ v6).setCell ⟨B, 7, none⟩ v7) (some B) :=
  grownBy_trans (grownBy_trans (grownBy_trans (grownBy_trans (grownBy_trans (grownBy_trans (grownBy_trans (t_set _ _ _ _) (t_set _ _ _ _)) (t_set _ _ _ _)) (t_set _ _ _ _)) (t_set _ _ _ _)) (t_set _ _ _ _)) (t_set _ _ _ _)) (t_set _ _ _ _)
theorem pair_at (w : World) (x y : Value) (T : TypeId) : ∀ j u, [x, y][j]? = some u → (w.alloc (.cells #[x, y] T)).cell? ((⟨w.heap.size, 0, none⟩ : Addr).add j) = some u := by
  intro j u hu
  have h := Bx.new w T #[x, y]
  have e : ((⟨w.heap.size, 0, none⟩ : Addr).add j) = ⟨w.heap.size, j, none⟩ := by
    unfold Addr.add
    split <;> simp_all
  rw [e]
  exact h.c j (by simpa using hu)
theorem step_app {P : Program} {w : World} {ops : Array Oper} {o : Oper} {a : Act} {K : Act → World → Prop} {Q : Exit → Act → World → Prop} {E : Prop} (hgd : o.guard = none) (s x : Operand) (t : TypeId)
    (ho : o.op = .call { callee := .builtin .append, args := #[s, x], argTypes := #[t, t] })
    (base : Nat) (e : TypeId) (i : TypeInfo) (z : Value) (size bytes : Nat) (ht : P.underlying t = some (.slice e)) (hi : P.info? e = some i) (hz : i.zero = some z)
    (hsize : i.size = size) (hby : i.bytes = bytes) (hzs : z.cells.size = size) (hsz : 0 < size)
    (v : Value) (n : Nat) (xs : List Value) (hs : a.eval s = v) (hown : w.ownsRow base e size v n xs)
    (ad : Addr) (m c : Nat) (news : List Value) (hx : a.eval x = .slice (some ad) m c) (hl : news.length = m * size) (hnews : ∀ j u, news[j]? = some u → w.cell? (ad.add j) = some u) (h1 : ∀ u ∈ news, u.oneCell' = true)
    (h63 : n + m ≤ maxLen) (hbytes : (n + m) * bytes ≤ 140737488355328) (hbase : base ≤ w.heap.size)
    (h : ∀ v' w', w'.ownsRow base e size v' (n + m) (xs ++ news) → w.grownBy w' v.ownBlock → K (a.put o.dst v') w') :
    if Region.wanted o (yielded ops a.tmps) = true then Oper.wp P o a w K Q else E := by
  have hw : Region.wanted o (yielded ops a.tmps) = true := by simp [Region.wanted, hgd]
  rw [if_pos hw]
  exact wp_append_own w s x t ho base e i z size bytes ht hi hz hsize hby hzs hsz v n xs hs hown ad m c news hx hl hnews h1 h63 hbytes hbase fun v' w' h2 h3 _ => h v' w' h2 h3

theorem gA_r {w W : World} {r : Nat} (h : w.grownBy W (some r)) (o : Obj) : w.grownBy (W.alloc o) (some r) := grownBy_trans h (World.grownBy_alloc _ _ _)
theorem t_info {i : Option TypeInfo} {z : Option Value} {size bytes : Nat} (h : i.map (fun i => (i.zero, i.size, i.bytes)) = some (z, size, bytes)) : ∃ i0, i = some i0 ∧ i0.zero = z ∧ i0.size = size ∧ i0.bytes = bytes := by
  cases i with
  | none => simp at h
  | some i0 => simp at h; exact ⟨i0, rfl, h.1, h.2.1, h.2.2⟩
/-- The appended row stands apart from the segment's own block. -/
theorem app_far {w V wz : World} {r C : Nat} {f o s k g n : Int} {a : Option Addr} {c : Nat} {l : List Rg} {d : List UInt8} {v : Value} {xs : List Value} {m : Nat} (ho : wz.ownsRow (w.heap.size + 1) 61 2 v m xs) (hg : V.grownBy wz (Value.ownBlock (.slice a l.length c))) (h : TS w r C f o s k g n a c l d V) : ∀ q, v.ownBlock = some q → q ≠ C := by
  intro q hq e
  subst e
  have hb : Bx wz q 26 #[.int .i64 f, .int .i64 o, .int .i64 s, .int .i64 k, .int .i64 g, .int .i64 n, .slice a l.length c, .string ⟨d.toArray⟩] := h.box.kept hg (fun e => h.far q e.symm rfl)
  rcases ho.2 with ⟨hv, _⟩ | ⟨g2, cap2, cur, hv, _, hcur, _⟩
  · rw [hv] at hq; simp [Value.ownBlock] at hq
  · rw [hv] at hq
    simp [Value.ownBlock] at hq
    subst hq
    have e2 := hb.symm.trans hcur
    simp at e2
theorem app_cell {w V wz : World} {r C : Nat} {f o s k g n : Int} {a : Option Addr} {c : Nat} {l : List Rg} {d : List UInt8} (hg : V.grownBy wz (Value.ownBlock (.slice a l.length c))) (h : TS w r C f o s k g n a c l d V) : wz.cell? ⟨C, 6, none⟩ = some (.slice a l.length c) := (h.box.kept hg (fun e => h.far C e.symm rfl)).c 6 rfl
theorem app_free {w V wz : World} {r C : Nat} {f o s k g n : Int} {a : Option Addr} {c : Nat} {l : List Rg} {d : List UInt8} (hg : V.grownBy wz (Value.ownBlock (.slice a l.length c))) (h : TS w r C f o s k g n a c l d V) : wz.frozen? ⟨C, 6, none⟩ = false := (h.box.kept hg (fun e => h.far C e.symm rfl)).f 6

set_option maxRecDepth 100000 in
set_option maxHeartbeats 8000000 in
theorem tcp_draw (r : Nat) (w : World) (h : RdOk w r) : Calls Try.prog 16 #[.pointer (some ⟨r, 0, none⟩)] w (TcPost w r) := by
  obtain ⟨i0, hi, hz0, hz1, hz2⟩ := t_info infoRg
  have hlt := h.lt
  have H0 := Lib.hid (And.intro (grown_any (World.grownBy_alloc w (.cells #[.int .i64 0, .int .i64 0, .int .i64 0, .int .i64 0, .int .i64 0, .int .i64 0, .slice none 0 0, .string ⟨#[]⟩] 26) none) (some r)) (And.intro (h.alloc (.cells #[.int .i64 0, .int .i64 0, .int .i64 0, .int .i64 0, .int .i64 0, .int .i64 0, .slice none 0 0, .string ⟨#[]⟩] 26)) (Bx.new w 26 #[.int .i64 0, .int .i64 0, .int .i64 0, .int .i64 0, .int .i64 0, .int .i64 0, .slice none 0 0, .string ⟨#[]⟩])))
  clear h
  go_enter Try.func16, Try.ntmps16
  go_wp2_with fail
  refine (seq_draw _ _ H0.out.2.1).mono ?_
  rintro e w1 ⟨s, hs, rfl, hg, hr⟩
  have H1 := Lib.hid (And.intro (grownBy_trans H0.out.1 hg) (And.intro hr (H0.out.2.2.kept hg (by simp; omega))))
  clear hg hr
  go_wp2_with fail
  refine (seq_draw _ _ H1.out.2.1).mono ?_
  rintro e w2 ⟨k, hk, rfl, hg, hr⟩
  have H2 := Lib.hid (And.intro (grownBy_trans H1.out.1 hg) (And.intro hr (H1.out.2.2.kept hg (by simp; omega))))
  clear hg hr
  go_wp2_with fail
  refine (below_any _ _ _ H2.out.2.1 (by omega)).mono ?_
  rintro e w3 ⟨n, n0, n1, rfl, hg, hr⟩
  have H3 := Lib.hid (And.intro (grownBy_trans H2.out.1 hg) (And.intro hr (H2.out.2.2.kept hg (by simp; omega))))
  clear hg hr
  go_wp2_with fail
  refine (bytes_any _ 7 _ H3.out.2.1 (by omega)).mono ?_
  rintro e w4 ⟨d, hd, rfl, hg, hr⟩
  have H4 := Lib.hid (And.intro (grownBy_trans H3.out.1 hg) (And.intro hr (H3.out.2.2.kept hg (by simp; omega))))
  clear hg hr
  have HS := Lib.hid (show TS w r w4.heap.size 1000 80 s k 16 n none 0 [] d (w4.alloc (.cells #[.int .i64 1000, .int .i64 80, .int .i64 s, .int .i64 k, .int .i64 16, .int .i64 n, .slice none 0 0, .string ⟨d.toArray⟩] 26)) from ⟨hlt, H4.out.2.2.lt, gA_r H4.out.1 _, H4.out.2.1.alloc _, H4.out.2.2.alloc _, Bx.new _ _ _, World.ownsRow_nil _ _ _ _, fun q hq => by cases hq⟩)
  go_wp2_with fail
  refine (below_any _ _ _ HS.out.rd (by omega)).mono ?_
  rintro e w6 ⟨q, q0, q1, rfl, hg, hr⟩
  rw [if_neg (by omega)] at q1
  obtain ⟨j, rfl⟩ := Int.eq_ofNat_of_zero_le q0
  have hj2 : j ≤ 2 := by omega
  have HS := Lib.hid (HS.out.move hg hr)
  clear hg hr q0 q1 H4 H3 H2 H1 H0
  generalize w4.heap.size = C at *
  go_wp2_with fail
  go_loopw [4] (fun i wr => TcRel w r C s k n d i wr) (fun i _ => (intOf i).toNat)
  case atStart => exact ⟨j, none, 0, [], by simpa using hj2, rfl, HS.out⟩
  case round =>
    clear HS hj2
    obtain ⟨j, a, c, l, hj, rfl, hst⟩ := hrel
    have HS := Lib.hid hst
    clear hst
    go_upto_region 3 with fail
    go_cut [21] (fun s21 wx => ∃ b : Bool, s21 = .bool b ∧ (b = true → 0 < j) ∧ TS w r C 1000 80 s k 16 n a c l d wx)
    case first =>
      by_cases h0 : j = 0
      · subst h0
        go_wp2_with fail
        go_meet
        exact ⟨false, rfl, by simp, HS.out⟩
      · have hj0 : (0 : Int) < (j : Int) := by omega
        go_wp2_with fail
        refine (once_any _ _ _ HS.out.rd (by omega) (by omega)).mono ?_
        rintro e w7 ⟨b, rfl, hg, hr⟩
        have HT := Lib.hid (HS.out.move hg hr)
        clear hg hr
        go_wp2_with fail
        go_meet
        exact ⟨b, rfl, fun _ => by omega, HT.out⟩
    case rest =>
      obtain ⟨b, rfl, hb, hst⟩ := hcut
      have HT := Lib.hid hst
      clear hst HS
      generalize hwc : wc = w7 at *
      clear hwc
      cases b
      · clear hb
        go_wp2_with fail
        refine (below_any _ _ _ HT.out.rd (by omega)).mono ?_
        rintro e w8 ⟨t, t0, t1, rfl, hg, hr⟩
        have HU := Lib.hid (HT.out.move hg hr)
        clear hg hr t0 t1 HT
        by_cases h18 : t = 18
        · subst h18
          go_wp2_with fail
          refine (off_any _ 0 63 _ HU.out.rd (by omega) (by omega) (by omega)).mono ?_
          rintro e w9 ⟨x, hx, rfl, hg, hr⟩
          have HV := Lib.hid (HU.out.move hg hr)
          clear hg hr hx
          have b0 := HV.out.box.c 0 (x := .int .i64 1000) rfl
          have b1 := HV.out.box.c 1 (x := .int .i64 80) rfl
          have b2 := HV.out.box.c 2 (x := .int .i64 s) rfl
          have b3 := HV.out.box.c 3 (x := .int .i64 k) rfl
          have b4 := HV.out.box.c 4 (x := .int .i64 16) rfl
          have b5 := HV.out.box.c 5 (x := .int .i64 n) rfl
          have b6 := HV.out.box.c 6 (x := .slice a l.length c) rfl
          have b7 := HV.out.box.c 7 (x := .string ⟨d.toArray⟩) rfl
          have y0 := HV.out.box.f 0
          have y1 := HV.out.box.f 1
          have y2 := HV.out.box.f 2
          have y3 := HV.out.box.f 3
          have y4 := HV.out.box.f 4
          have y5 := HV.out.box.f 5
          have y6 := HV.out.box.f 6
          have y7 := HV.out.box.f 7
          have HW := Lib.hid (HV.out.st 4 (.int .i64 x) (HV.out.box.s 4 (.int .i64 x)))
          skip
          have z0 := HV.out.res.c 0 (x := .int .i64 0) rfl
          have z1 := HV.out.res.c 1 (x := .int .i64 0) rfl
          have z2 := HV.out.res.c 2 (x := .int .i64 0) rfl
          have z3 := HV.out.res.c 3 (x := .int .i64 0) rfl
          have z4 := HV.out.res.c 4 (x := .int .i64 0) rfl
          have z5 := HV.out.res.c 5 (x := .int .i64 0) rfl
          have z6 := HV.out.res.c 6 (x := .slice none 0 0) rfl
          have z7 := HV.out.res.c 7 (x := .string ⟨#[]⟩) rfl
          have x0 := HV.out.res.f 0
          have x1 := HV.out.res.f 1
          have x2 := HV.out.res.f 2
          have x3 := HV.out.res.f 3
          have x4 := HV.out.res.f 4
          have x5 := HV.out.res.f 5
          have x6 := HV.out.res.f 6
          have x7 := HV.out.res.f 7
          have le := HV.out.box.lt
          have lr2 := HV.out.res.lt
          have lt := HV.out.lt
          have HF := Lib.hid (HW.out.fin _ (t_eight _ w.heap.size (.int .i64 1000) (.int .i64 80) (.int .i64 s) (.int .i64 k) (.int .i64 x) (.int .i64 n) (.slice a l.length c) (.string ⟨d.toArray⟩)))
          go_wp2_with fail
          exact bodyPost_ret (v := .agg #[.int .i64 1000, .int .i64 80, .int .i64 s, .int .i64 k, .int .i64 x, .int .i64 n, .slice a l.length c, .string ⟨d.toArray⟩]) (by simp [results, Try.results16, go_sem, z0, z1, z2, z3, z4, z5, z6, z7]) rfl ⟨1000, 80, s, k, x, n, a, c, l, d, rfl, by omega, HF.out.1, HF.out.2.1, HF.out.2.2⟩
        · by_cases h19 : t = 19
          · subst h19
            go_wp2_with fail
            refine (off_any _ 0 65535 _ HU.out.rd (by omega) (by omega) (by omega)).mono ?_
            rintro e w9 ⟨x, hx, rfl, hg, hr⟩
            have HV := Lib.hid (HU.out.move hg hr)
            clear hg hr hx
            have b0 := HV.out.box.c 0 (x := .int .i64 1000) rfl
            have b1 := HV.out.box.c 1 (x := .int .i64 80) rfl
            have b2 := HV.out.box.c 2 (x := .int .i64 s) rfl
            have b3 := HV.out.box.c 3 (x := .int .i64 k) rfl
            have b4 := HV.out.box.c 4 (x := .int .i64 16) rfl
            have b5 := HV.out.box.c 5 (x := .int .i64 n) rfl
            have b6 := HV.out.box.c 6 (x := .slice a l.length c) rfl
            have b7 := HV.out.box.c 7 (x := .string ⟨d.toArray⟩) rfl
            have y0 := HV.out.box.f 0
            have y1 := HV.out.box.f 1
            have y2 := HV.out.box.f 2
            have y3 := HV.out.box.f 3
            have y4 := HV.out.box.f 4
            have y5 := HV.out.box.f 5
            have y6 := HV.out.box.f 6
            have y7 := HV.out.box.f 7
            have HW := Lib.hid (HV.out.st 0 (.int .i64 x) (HV.out.box.s 0 (.int .i64 x)))
            skip
            have z0 := HV.out.res.c 0 (x := .int .i64 0) rfl
            have z1 := HV.out.res.c 1 (x := .int .i64 0) rfl
            have z2 := HV.out.res.c 2 (x := .int .i64 0) rfl
            have z3 := HV.out.res.c 3 (x := .int .i64 0) rfl
            have z4 := HV.out.res.c 4 (x := .int .i64 0) rfl
            have z5 := HV.out.res.c 5 (x := .int .i64 0) rfl
            have z6 := HV.out.res.c 6 (x := .slice none 0 0) rfl
            have z7 := HV.out.res.c 7 (x := .string ⟨#[]⟩) rfl
            have x0 := HV.out.res.f 0
            have x1 := HV.out.res.f 1
            have x2 := HV.out.res.f 2
            have x3 := HV.out.res.f 3
            have x4 := HV.out.res.f 4
            have x5 := HV.out.res.f 5
            have x6 := HV.out.res.f 6
            have x7 := HV.out.res.f 7
            have le := HV.out.box.lt
            have lr2 := HV.out.res.lt
            have lt := HV.out.lt
            have HF := Lib.hid (HW.out.fin _ (t_eight _ w.heap.size (.int .i64 x) (.int .i64 80) (.int .i64 s) (.int .i64 k) (.int .i64 16) (.int .i64 n) (.slice a l.length c) (.string ⟨d.toArray⟩)))
            go_wp2_with fail
            exact bodyPost_ret (v := .agg #[.int .i64 x, .int .i64 80, .int .i64 s, .int .i64 k, .int .i64 16, .int .i64 n, .slice a l.length c, .string ⟨d.toArray⟩]) (by simp [results, Try.results16, go_sem, z0, z1, z2, z3, z4, z5, z6, z7]) rfl ⟨x, 80, s, k, 16, n, a, c, l, d, rfl, by omega, HF.out.1, HF.out.2.1, HF.out.2.2⟩
          · skip
            have z0 := HU.out.res.c 0 (x := .int .i64 0) rfl
            have z1 := HU.out.res.c 1 (x := .int .i64 0) rfl
            have z2 := HU.out.res.c 2 (x := .int .i64 0) rfl
            have z3 := HU.out.res.c 3 (x := .int .i64 0) rfl
            have z4 := HU.out.res.c 4 (x := .int .i64 0) rfl
            have z5 := HU.out.res.c 5 (x := .int .i64 0) rfl
            have z6 := HU.out.res.c 6 (x := .slice none 0 0) rfl
            have z7 := HU.out.res.c 7 (x := .string ⟨#[]⟩) rfl
            have x0 := HU.out.res.f 0
            have x1 := HU.out.res.f 1
            have x2 := HU.out.res.f 2
            have x3 := HU.out.res.f 3
            have x4 := HU.out.res.f 4
            have x5 := HU.out.res.f 5
            have x6 := HU.out.res.f 6
            have x7 := HU.out.res.f 7
            have b0 := HU.out.box.c 0 (x := .int .i64 1000) rfl
            have b1 := HU.out.box.c 1 (x := .int .i64 80) rfl
            have b2 := HU.out.box.c 2 (x := .int .i64 s) rfl
            have b3 := HU.out.box.c 3 (x := .int .i64 k) rfl
            have b4 := HU.out.box.c 4 (x := .int .i64 16) rfl
            have b5 := HU.out.box.c 5 (x := .int .i64 n) rfl
            have b6 := HU.out.box.c 6 (x := .slice a l.length c) rfl
            have b7 := HU.out.box.c 7 (x := .string ⟨d.toArray⟩) rfl
            have le := HU.out.box.lt
            have lt := HU.out.lt
            have HF := Lib.hid (HU.out.fin _ (t_eight _ w.heap.size (.int .i64 1000) (.int .i64 80) (.int .i64 s) (.int .i64 k) (.int .i64 16) (.int .i64 n) (.slice a l.length c) (.string ⟨d.toArray⟩)))
            go_wp2_with fail
            exact bodyPost_ret (v := .agg #[.int .i64 1000, .int .i64 80, .int .i64 s, .int .i64 k, .int .i64 16, .int .i64 n, .slice a l.length c, .string ⟨d.toArray⟩]) (by simp [results, Try.results16, go_sem, z0, z1, z2, z3, z4, z5, z6, z7]) rfl ⟨1000, 80, s, k, 16, n, a, c, l, d, rfl, by omega, HF.out.1, HF.out.2.1, HF.out.2.2⟩
      · have hj0 := hb rfl
        clear hb
        have hl2 : l.length ≤ 2 := by omega
        have b0 := HT.out.box.c 0 (x := .int .i64 1000) rfl
        have b1 := HT.out.box.c 1 (x := .int .i64 80) rfl
        have b2 := HT.out.box.c 2 (x := .int .i64 s) rfl
        have b3 := HT.out.box.c 3 (x := .int .i64 k) rfl
        have b4 := HT.out.box.c 4 (x := .int .i64 16) rfl
        have b5 := HT.out.box.c 5 (x := .int .i64 n) rfl
        have b6 := HT.out.box.c 6 (x := .slice a l.length c) rfl
        have b7 := HT.out.box.c 7 (x := .string ⟨d.toArray⟩) rfl
        have le := HT.out.box.lt
        obtain ⟨m, rfl⟩ : ∃ m, j = m + 1 := ⟨j - 1, by omega⟩
        go_upto_region 5 with fail
        refine wp_region_held_drew (S := fun _ => True) (by kernel_rfl) trivial (fun _ => ?_)
        refine wpAnyH_take (i := 0) (v := .pointer (some ⟨C, 6, none⟩)) rfl (by decide +kernel) (by decide +kernel) (by decide +kernel) (fun _ _ _ h => h) (Or.inl ⟨by rfl, ?_⟩) trivial ?_
        · intro w' _
          go_simp
        refine wpAnyH_take (i := 2) (v := .pointer (some ⟨r, 0, none⟩)) rfl (by decide +kernel) (by decide +kernel) (by decide +kernel) (fun _ _ _ h => h) (Or.inl ⟨by rfl, ?_⟩) trivial ?_
        · intro w' _
          go_simp
        refine wpAnyH_take (i := 4) (v := .pointer (some ⟨r, 0, none⟩)) rfl (by decide +kernel) (by decide +kernel) (by decide +kernel) (fun _ _ _ h => h) (Or.inl ⟨by rfl, ?_⟩) trivial ?_
        · intro w' _
          go_simp
        refine wpAnyH_ready (rs := [1, 3]) (by decide +kernel) (List.cons_ne_nil _ _) ?_
        refine AllReadyH.cons rfl (fun K hK => ?_) (AllReadyH.cons rfl (fun K hK => ?_) AllReadyH.nil)
        · go_simp
          refine hK.out _ _ trivial (fun _ => ?_)
          clear hK K
          refine wpAnyH_ready (rs := [3]) (by decide +kernel) (List.cons_ne_nil _ _) ?_
          refine AllReadyH.cons rfl (fun K hK => ?_) AllReadyH.nil
          · go_simp
            go_at_call 17
            refine (seq_draw r _ (HT.out.keep grownBy_drw).rd).mono ?_
            rintro e w8 ⟨x, x0, rfl, hg, hr⟩
            have H8 := Lib.hid ((HT.out.keep grownBy_drw).move hg hr)
            clear hg hr x0
            have lew8 := H8.out.box.lt
            have b0 := H8.out.box.c 0 (x := .int .i64 1000) rfl
            have b1 := H8.out.box.c 1 (x := .int .i64 80) rfl
            have b2 := H8.out.box.c 2 (x := .int .i64 s) rfl
            have b3 := H8.out.box.c 3 (x := .int .i64 k) rfl
            have b4 := H8.out.box.c 4 (x := .int .i64 16) rfl
            have b5 := H8.out.box.c 5 (x := .int .i64 n) rfl
            have b6 := H8.out.box.c 6 (x := .slice a l.length c) rfl
            have b7 := H8.out.box.c 7 (x := .string ⟨d.toArray⟩) rfl
            refine hK.out _ _ trivial (fun _ => ?_)
            clear hK K
            refine wpAnyH_ready (rs := [5]) (by decide +kernel) (List.cons_ne_nil _ _) ?_
            refine AllReadyH.cons rfl (fun K hK => ?_) AllReadyH.nil
            · go_simp
              go_at_call 17
              refine (seq_draw r _ (H8.out).rd).mono ?_
              rintro e w9 ⟨y, y0, rfl, hg, hr⟩
              have H9 := Lib.hid ((H8.out).move hg hr)
              clear hg hr y0
              have lew9 := H9.out.box.lt
              have b0 := H9.out.box.c 0 (x := .int .i64 1000) rfl
              have b1 := H9.out.box.c 1 (x := .int .i64 80) rfl
              have b2 := H9.out.box.c 2 (x := .int .i64 s) rfl
              have b3 := H9.out.box.c 3 (x := .int .i64 k) rfl
              have b4 := H9.out.box.c 4 (x := .int .i64 16) rfl
              have b5 := H9.out.box.c 5 (x := .int .i64 n) rfl
              have b6 := H9.out.box.c 6 (x := .slice a l.length c) rfl
              have b7 := H9.out.box.c 7 (x := .string ⟨d.toArray⟩) rfl
              refine hK.out _ _ trivial (fun _ => ?_)
              clear hK K
              refine wpAnyH_take (i := 6) (v := .agg #[.int .i64 x, .int .i64 y]) rfl (by decide +kernel) (by decide +kernel) (by decide +kernel) (fun _ _ _ h => h) (Or.inl ⟨by rfl, ?_⟩) trivial ?_
              · intro w' _
                go_simp
              refine wpAnyH_ready (rs := [7]) (by decide +kernel) (List.cons_ne_nil _ _) ?_
              refine AllReadyH.cons rfl (fun K hK => ?_) AllReadyH.nil
              · go_simp
                refine hK.out _ _ trivial (fun _ => ?_)
                clear hK K
                refine wpAnyH_ready (rs := [8]) (by decide +kernel) (List.cons_ne_nil _ _) ?_
                refine AllReadyH.cons rfl (fun K hK => ?_) AllReadyH.nil
                · refine step_app (by rfl) _ _ _ (by rfl) (w.heap.size + 1) 61 i0 _ 2 16 Try.underlying24 hi hz0 hz1 hz2 rfl (by decide) _ l.length (rgsV l) (by rfl) (H9.out.keep (World.grownBy_alloc _ _ none)).row ⟨w9.heap.size, 0, none⟩ 1 1 [.int .i64 x, .int .i64 y] (by rfl) (by rfl) (pair_at w9 _ _ _) (by simp [Value.oneCell']) (by unfold maxLen; omega) (by omega) (by have := H9.out.res.lt; simp; omega) ?_
                  intro v' wz hown1 hg1
                  obtain ⟨a3, c3, rfl⟩ := t_slice hown1
                  have HA := Lib.hid (show ∃ (a2 : Option Addr) (c2 : Nat), (.slice a3 (l.length + 1) c3 : Value) = _ ∧ TS w r C 1000 80 s k 16 n a2 c2 (l ++ [(x, y)]) d (wz.setCell ⟨C, 6, none⟩ (.slice a3 (l.length + 1) c3)) from H9.out.app (World.grownBy_alloc _ _ none) hg1 hown1 (app_far hown1 hg1 (H9.out.keep (World.grownBy_alloc _ _ none))))
                  have b6z := app_cell hg1 (H9.out.keep (World.grownBy_alloc _ _ none))
                  have f6z := app_free hg1 (H9.out.keep (World.grownBy_alloc _ _ none))
                  clear hown1 hg1
                  refine hK.out _ _ trivial (fun _ => ?_)
                  clear hK K
                  refine wpAnyH_ready (rs := [9]) (by decide +kernel) (List.cons_ne_nil _ _) ?_
                  refine AllReadyH.cons rfl (fun K hK => ?_) AllReadyH.nil
                  · go_simp
                    refine hK.out _ _ trivial (fun _ => ?_)
                    clear hK K
                    refine wpAnyH_ready (rs := [10]) (by decide +kernel) (List.cons_ne_nil _ _) ?_
                    refine AllReadyH.cons rfl (fun K hK => ?_) AllReadyH.nil
                    · go_simp
                      refine hK.out _ _ trivial (fun _ => ?_)
                      clear hK K
                      refine wpAnyH_done (by decide +kernel) ?_ _
                      go_wp2_with fail
                      go_roundw
                      case rel =>
                        obtain ⟨a2, c2, _, hT⟩ := HA.out
                        exact ⟨m, a2, c2, l ++ [(x, y)], by simp; omega, by go_num, hT⟩
                      case measure => first | (simp [intOf]; done) | (simp [intOf]; omega)
        · go_simp
          go_at_call 17
          refine (seq_draw r _ (HT.out.keep grownBy_drw).rd).mono ?_
          rintro e w8 ⟨x, x0, rfl, hg, hr⟩
          have H8 := Lib.hid ((HT.out.keep grownBy_drw).move hg hr)
          clear hg hr x0
          have lew8 := H8.out.box.lt
          have b0 := H8.out.box.c 0 (x := .int .i64 1000) rfl
          have b1 := H8.out.box.c 1 (x := .int .i64 80) rfl
          have b2 := H8.out.box.c 2 (x := .int .i64 s) rfl
          have b3 := H8.out.box.c 3 (x := .int .i64 k) rfl
          have b4 := H8.out.box.c 4 (x := .int .i64 16) rfl
          have b5 := H8.out.box.c 5 (x := .int .i64 n) rfl
          have b6 := H8.out.box.c 6 (x := .slice a l.length c) rfl
          have b7 := H8.out.box.c 7 (x := .string ⟨d.toArray⟩) rfl
          refine hK.out _ _ trivial (fun _ => ?_)
          clear hK K
          refine wpAnyH_ready (rs := [1, 5]) (by decide +kernel) (List.cons_ne_nil _ _) ?_
          refine AllReadyH.cons rfl (fun K hK => ?_) (AllReadyH.cons rfl (fun K hK => ?_) AllReadyH.nil)
          · go_simp
            refine hK.out _ _ trivial (fun _ => ?_)
            clear hK K
            refine wpAnyH_ready (rs := [5]) (by decide +kernel) (List.cons_ne_nil _ _) ?_
            refine AllReadyH.cons rfl (fun K hK => ?_) AllReadyH.nil
            · go_simp
              go_at_call 17
              refine (seq_draw r _ (H8.out).rd).mono ?_
              rintro e w9 ⟨y, y0, rfl, hg, hr⟩
              have H9 := Lib.hid ((H8.out).move hg hr)
              clear hg hr y0
              have lew9 := H9.out.box.lt
              have b0 := H9.out.box.c 0 (x := .int .i64 1000) rfl
              have b1 := H9.out.box.c 1 (x := .int .i64 80) rfl
              have b2 := H9.out.box.c 2 (x := .int .i64 s) rfl
              have b3 := H9.out.box.c 3 (x := .int .i64 k) rfl
              have b4 := H9.out.box.c 4 (x := .int .i64 16) rfl
              have b5 := H9.out.box.c 5 (x := .int .i64 n) rfl
              have b6 := H9.out.box.c 6 (x := .slice a l.length c) rfl
              have b7 := H9.out.box.c 7 (x := .string ⟨d.toArray⟩) rfl
              refine hK.out _ _ trivial (fun _ => ?_)
              clear hK K
              refine wpAnyH_take (i := 6) (v := .agg #[.int .i64 x, .int .i64 y]) rfl (by decide +kernel) (by decide +kernel) (by decide +kernel) (fun _ _ _ h => h) (Or.inl ⟨by rfl, ?_⟩) trivial ?_
              · intro w' _
                go_simp
              refine wpAnyH_ready (rs := [7]) (by decide +kernel) (List.cons_ne_nil _ _) ?_
              refine AllReadyH.cons rfl (fun K hK => ?_) AllReadyH.nil
              · go_simp
                refine hK.out _ _ trivial (fun _ => ?_)
                clear hK K
                refine wpAnyH_ready (rs := [8]) (by decide +kernel) (List.cons_ne_nil _ _) ?_
                refine AllReadyH.cons rfl (fun K hK => ?_) AllReadyH.nil
                · refine step_app (by rfl) _ _ _ (by rfl) (w.heap.size + 1) 61 i0 _ 2 16 Try.underlying24 hi hz0 hz1 hz2 rfl (by decide) _ l.length (rgsV l) (by rfl) (H9.out.keep (World.grownBy_alloc _ _ none)).row ⟨w9.heap.size, 0, none⟩ 1 1 [.int .i64 x, .int .i64 y] (by rfl) (by rfl) (pair_at w9 _ _ _) (by simp [Value.oneCell']) (by unfold maxLen; omega) (by omega) (by have := H9.out.res.lt; simp; omega) ?_
                  intro v' wz hown1 hg1
                  obtain ⟨a3, c3, rfl⟩ := t_slice hown1
                  have HA := Lib.hid (show ∃ (a2 : Option Addr) (c2 : Nat), (.slice a3 (l.length + 1) c3 : Value) = _ ∧ TS w r C 1000 80 s k 16 n a2 c2 (l ++ [(x, y)]) d (wz.setCell ⟨C, 6, none⟩ (.slice a3 (l.length + 1) c3)) from H9.out.app (World.grownBy_alloc _ _ none) hg1 hown1 (app_far hown1 hg1 (H9.out.keep (World.grownBy_alloc _ _ none))))
                  have b6z := app_cell hg1 (H9.out.keep (World.grownBy_alloc _ _ none))
                  have f6z := app_free hg1 (H9.out.keep (World.grownBy_alloc _ _ none))
                  clear hown1 hg1
                  refine hK.out _ _ trivial (fun _ => ?_)
                  clear hK K
                  refine wpAnyH_ready (rs := [9]) (by decide +kernel) (List.cons_ne_nil _ _) ?_
                  refine AllReadyH.cons rfl (fun K hK => ?_) AllReadyH.nil
                  · go_simp
                    refine hK.out _ _ trivial (fun _ => ?_)
                    clear hK K
                    refine wpAnyH_ready (rs := [10]) (by decide +kernel) (List.cons_ne_nil _ _) ?_
                    refine AllReadyH.cons rfl (fun K hK => ?_) AllReadyH.nil
                    · go_simp
                      refine hK.out _ _ trivial (fun _ => ?_)
                      clear hK K
                      refine wpAnyH_done (by decide +kernel) ?_ _
                      go_wp2_with fail
                      go_roundw
                      case rel =>
                        obtain ⟨a2, c2, _, hT⟩ := HA.out
                        exact ⟨m, a2, c2, l ++ [(x, y)], by simp; omega, by go_num, hT⟩
                      case measure => first | (simp [intOf]; done) | (simp [intOf]; omega)
          · go_simp
            go_at_call 17
            refine (seq_draw r _ (H8.out).rd).mono ?_
            rintro e w9 ⟨y, y0, rfl, hg, hr⟩
            have H9 := Lib.hid ((H8.out).move hg hr)
            clear hg hr y0
            have lew9 := H9.out.box.lt
            have b0 := H9.out.box.c 0 (x := .int .i64 1000) rfl
            have b1 := H9.out.box.c 1 (x := .int .i64 80) rfl
            have b2 := H9.out.box.c 2 (x := .int .i64 s) rfl
            have b3 := H9.out.box.c 3 (x := .int .i64 k) rfl
            have b4 := H9.out.box.c 4 (x := .int .i64 16) rfl
            have b5 := H9.out.box.c 5 (x := .int .i64 n) rfl
            have b6 := H9.out.box.c 6 (x := .slice a l.length c) rfl
            have b7 := H9.out.box.c 7 (x := .string ⟨d.toArray⟩) rfl
            refine hK.out _ _ trivial (fun _ => ?_)
            clear hK K
            refine wpAnyH_take (i := 6) (v := .agg #[.int .i64 x, .int .i64 y]) rfl (by decide +kernel) (by decide +kernel) (by decide +kernel) (fun _ _ _ h => h) (Or.inl ⟨by rfl, ?_⟩) trivial ?_
            · intro w' _
              go_simp
            refine wpAnyH_ready (rs := [1, 7]) (by decide +kernel) (List.cons_ne_nil _ _) ?_
            refine AllReadyH.cons rfl (fun K hK => ?_) (AllReadyH.cons rfl (fun K hK => ?_) AllReadyH.nil)
            · go_simp
              refine hK.out _ _ trivial (fun _ => ?_)
              clear hK K
              refine wpAnyH_ready (rs := [7]) (by decide +kernel) (List.cons_ne_nil _ _) ?_
              refine AllReadyH.cons rfl (fun K hK => ?_) AllReadyH.nil
              · go_simp
                refine hK.out _ _ trivial (fun _ => ?_)
                clear hK K
                refine wpAnyH_ready (rs := [8]) (by decide +kernel) (List.cons_ne_nil _ _) ?_
                refine AllReadyH.cons rfl (fun K hK => ?_) AllReadyH.nil
                · refine step_app (by rfl) _ _ _ (by rfl) (w.heap.size + 1) 61 i0 _ 2 16 Try.underlying24 hi hz0 hz1 hz2 rfl (by decide) _ l.length (rgsV l) (by rfl) (H9.out.keep (World.grownBy_alloc _ _ none)).row ⟨w9.heap.size, 0, none⟩ 1 1 [.int .i64 x, .int .i64 y] (by rfl) (by rfl) (pair_at w9 _ _ _) (by simp [Value.oneCell']) (by unfold maxLen; omega) (by omega) (by have := H9.out.res.lt; simp; omega) ?_
                  intro v' wz hown1 hg1
                  obtain ⟨a3, c3, rfl⟩ := t_slice hown1
                  have HA := Lib.hid (show ∃ (a2 : Option Addr) (c2 : Nat), (.slice a3 (l.length + 1) c3 : Value) = _ ∧ TS w r C 1000 80 s k 16 n a2 c2 (l ++ [(x, y)]) d (wz.setCell ⟨C, 6, none⟩ (.slice a3 (l.length + 1) c3)) from H9.out.app (World.grownBy_alloc _ _ none) hg1 hown1 (app_far hown1 hg1 (H9.out.keep (World.grownBy_alloc _ _ none))))
                  have b6z := app_cell hg1 (H9.out.keep (World.grownBy_alloc _ _ none))
                  have f6z := app_free hg1 (H9.out.keep (World.grownBy_alloc _ _ none))
                  clear hown1 hg1
                  refine hK.out _ _ trivial (fun _ => ?_)
                  clear hK K
                  refine wpAnyH_ready (rs := [9]) (by decide +kernel) (List.cons_ne_nil _ _) ?_
                  refine AllReadyH.cons rfl (fun K hK => ?_) AllReadyH.nil
                  · go_simp
                    refine hK.out _ _ trivial (fun _ => ?_)
                    clear hK K
                    refine wpAnyH_ready (rs := [10]) (by decide +kernel) (List.cons_ne_nil _ _) ?_
                    refine AllReadyH.cons rfl (fun K hK => ?_) AllReadyH.nil
                    · go_simp
                      refine hK.out _ _ trivial (fun _ => ?_)
                      clear hK K
                      refine wpAnyH_done (by decide +kernel) ?_ _
                      go_wp2_with fail
                      go_roundw
                      case rel =>
                        obtain ⟨a2, c2, _, hT⟩ := HA.out
                        exact ⟨m, a2, c2, l ++ [(x, y)], by simp; omega, by go_num, hT⟩
                      case measure => first | (simp [intOf]; done) | (simp [intOf]; omega)
            · go_simp
              refine hK.out _ _ trivial (fun _ => ?_)
              clear hK K
              refine wpAnyH_ready (rs := [1]) (by decide +kernel) (List.cons_ne_nil _ _) ?_
              refine AllReadyH.cons rfl (fun K hK => ?_) AllReadyH.nil
              · go_simp
                refine hK.out _ _ trivial (fun _ => ?_)
                clear hK K
                refine wpAnyH_ready (rs := [8]) (by decide +kernel) (List.cons_ne_nil _ _) ?_
                refine AllReadyH.cons rfl (fun K hK => ?_) AllReadyH.nil
                · refine step_app (by rfl) _ _ _ (by rfl) (w.heap.size + 1) 61 i0 _ 2 16 Try.underlying24 hi hz0 hz1 hz2 rfl (by decide) _ l.length (rgsV l) (by rfl) (H9.out.keep (World.grownBy_alloc _ _ none)).row ⟨w9.heap.size, 0, none⟩ 1 1 [.int .i64 x, .int .i64 y] (by rfl) (by rfl) (pair_at w9 _ _ _) (by simp [Value.oneCell']) (by unfold maxLen; omega) (by omega) (by have := H9.out.res.lt; simp; omega) ?_
                  intro v' wz hown1 hg1
                  obtain ⟨a3, c3, rfl⟩ := t_slice hown1
                  have HA := Lib.hid (show ∃ (a2 : Option Addr) (c2 : Nat), (.slice a3 (l.length + 1) c3 : Value) = _ ∧ TS w r C 1000 80 s k 16 n a2 c2 (l ++ [(x, y)]) d (wz.setCell ⟨C, 6, none⟩ (.slice a3 (l.length + 1) c3)) from H9.out.app (World.grownBy_alloc _ _ none) hg1 hown1 (app_far hown1 hg1 (H9.out.keep (World.grownBy_alloc _ _ none))))
                  have b6z := app_cell hg1 (H9.out.keep (World.grownBy_alloc _ _ none))
                  have f6z := app_free hg1 (H9.out.keep (World.grownBy_alloc _ _ none))
                  clear hown1 hg1
                  refine hK.out _ _ trivial (fun _ => ?_)
                  clear hK K
                  refine wpAnyH_ready (rs := [9]) (by decide +kernel) (List.cons_ne_nil _ _) ?_
                  refine AllReadyH.cons rfl (fun K hK => ?_) AllReadyH.nil
                  · go_simp
                    refine hK.out _ _ trivial (fun _ => ?_)
                    clear hK K
                    refine wpAnyH_ready (rs := [10]) (by decide +kernel) (List.cons_ne_nil _ _) ?_
                    refine AllReadyH.cons rfl (fun K hK => ?_) AllReadyH.nil
                    · go_simp
                      refine hK.out _ _ trivial (fun _ => ?_)
                      clear hK K
                      refine wpAnyH_done (by decide +kernel) ?_ _
                      go_wp2_with fail
                      go_roundw
                      case rel =>
                        obtain ⟨a2, c2, _, hT⟩ := HA.out
                        exact ⟨m, a2, c2, l ++ [(x, y)], by simp; omega, by go_num, hT⟩
                      case measure => first | (simp [intOf]; done) | (simp [intOf]; omega)

end Go.Proofs.Ythfhffcimjolgaa
