/- Copies of rows of ranges: the library's, the model's of a board; the library's joining of slices. -/
import Derived.Test.YtedgfiagefhahaaBdL
namespace Go.Proofs.Ytedgfiagefhahaa
open Go.RowKit

/-- A slice whose cells are those of pieces. -/
def SlAt (w : World) (s : Value) (l : List Rg) : Prop :=
  (s = .slice none 0 0 ∧ l = []) ∨ ∃ (ad : Addr) (c : Nat), s = .slice (some ad) l.length c ∧ ∀ j u, (rgsV l)[j]? = some u → w.cell? (ad.add j) = some u

theorem SlAt.kept {w w' : World} {s : Value} {l : List Rg} (h : SlAt w s l) (hg : w.grownBy w' none) : SlAt w' s l := by
  rcases h with h | ⟨ad, c, hs, hc⟩
  · exact .inl h
  · exact .inr ⟨ad, c, hs, fun j u hu => hg.cell (hc j u hu) (by simp)⟩

theorem rgsV_one : ∀ (l : List Rg), ∀ u ∈ rgsV l, u.oneCell' = true
  | [], u, h => by simp [rgsV] at h
  | p :: l, u, h => by
    have e : rgsV (p :: l) = .int .i64 p.1 :: .int .i64 p.2 :: rgsV l := rfl
    rw [e] at h
    rcases List.mem_cons.mp h with rfl | h
    · simp [Value.oneCell']
    · rcases List.mem_cons.mp h with rfl | h
      · simp [Value.oneCell']
      · exact rgsV_one l u h

theorem rgsV_app (l m : List Rg) : rgsV (l ++ m) = rgsV l ++ rgsV m := by simp [rgsV]

def catL (L : List (Value × List Rg)) : List Rg := L.flatMap (·.2)

theorem catL_next (L : List (Value × List Rg)) (j : Nat) (h : j < L.length) : catL (L.take (j + 1)) = catL (L.take j) ++ L[j].2 := by
  rw [List.take_succ_eq_append_getElem h, catL, List.flatMap_append]
  simp [catL]

theorem catL_le (L : List (Value × List Rg)) (j : Nat) : (catL (L.take j)).length ≤ (catL L).length := by
  have e : catL L = catL (L.take j) ++ catL (L.drop j) := by rw [catL, catL, catL, ← List.flatMap_append, List.take_append_drop]
  rw [e, List.length_append]
  omega

theorem SlAt.len {w : World} {s : Value} {l : List Rg} (h : SlAt w s l) : ∃ ad c, s = .slice ad l.length c ∧ (ad = none → c = 0 ∧ l = []) := by
  rcases h with ⟨rfl, rfl⟩ | ⟨ad, c, hs, _⟩
  · exact ⟨none, 0, rfl, fun _ => ⟨rfl, rfl⟩⟩
  · exact ⟨some ad, c, hs, fun e => by cases e⟩

def C1Rel (w : World) (L : List (Value × List Rg)) (n i : Value) (wr : World) : Prop :=
  ∃ j : Nat, j ≤ L.length ∧ i = .int .i64 j ∧ n = .int .i64 ((catL (L.take j)).length : Int) ∧ w.grownBy wr none

def C2Rel (w : World) (L : List (Value × List Rg)) (v i : Value) (wr : World) : Prop :=
  ∃ j : Nat, j ≤ L.length ∧ i = .int .i64 j ∧ w.grownBy wr none ∧ wr.ownsRow w.heap.size 40 2 v (catL (L.take j)).length (rgsV (catL (L.take j)))

def CcPost (w : World) (l : List Rg) (e : Ending) (w' : World) : Prop :=
  ∃ v, e = .returned v ∧ w.grownBy w' none ∧ w'.ownsRow w.heap.size 40 2 v l.length (rgsV l)

def GrPost (w : World) (e : Ending) (w' : World) : Prop :=
  ∃ G : Nat, e = .returned (.slice (some ⟨w.heap.size, 0, none⟩) 0 G) ∧ w.grownBy w' none ∧ w'.ownsRow w.heap.size 40 2 (.slice (some ⟨w.heap.size, 0, none⟩) 0 G) 0 []

set_option maxRecDepth 100000 in
set_option maxHeartbeats 4000000 in
theorem grow_nil (n : Nat) (w : World) (h0 : 0 < n) (h1 : n ≤ 1000) : Calls Try.prog 54 #[.slice none 0 0, .int .i64 (n : Int)] w (GrPost w) := by
  obtain ⟨i0, hi, hz0, hz1, hz2⟩ := info_of infoRg
  have hn0 : ¬ (n : Int) < 0 := by omega
  have hn1 : (0 : Int) < (n : Int) := by omega
  have hw : IntKind.i64.wrap (n : Int) = n := IntWalk.i64_in _ (by omega)
  have hrz : ∀ ty, (Builtin.append_ #[54, 3] ty #[.slice none 0 0, .int .i64 (n : Int)]).run Try.prog w = .ok (.slice (some ⟨w.heap.size, 0, none⟩) n (grownCap w n 0 40)) (w.drew.alloc (.cells (Builtin.zeroCells (Value.agg #[.int .i64 0, .int .i64 0]).cells n ++ Builtin.zeroCells (Value.agg #[.int .i64 0, .int .i64 0]).cells (grownCap w n 0 40 - n)) 40)) := fun ty =>
    Lib.run_append_nil_zeros w 54 3 ty 40 i0 _ .i64 .i64 Try.underlying54 Try.underlying3 hi hz0 n h0 (by omega) (by omega) (by rw [hz2]; omega)
  have hGn : n ≤ grownCap w n 0 40 := grownCap_ge w _ _ _
  have hGm := grownCap_le_maxLen w n 0 40 (by unfold maxLen; omega)
  generalize grownCap w n 0 40 = G at *
  have hsz : (Builtin.zeroCells (Value.agg #[.int .i64 0, .int .i64 0]).cells n ++ Builtin.zeroCells (Value.agg #[.int .i64 0, .int .i64 0]).cells (G - n)).size = G * 2 := by
    simp only [Array.size_append, size_zeroCells, Value.cells]
    simp
    omega
  have HO := Lib.hid (World.ownsRow_made (base := w.heap.size) (e := 40) (size := 2) w.drew _ G (Nat.le_refl _) hGm hsz)
  have HG := Lib.hid (grownBy_trans (grownBy_drew (a := w) (r := none)) (World.grownBy_alloc w.drew (.cells (Builtin.zeroCells (Value.agg #[.int .i64 0, .int .i64 0]).cells n ++ Builtin.zeroCells (Value.agg #[.int .i64 0, .int .i64 0]).cells (G - n)) 40) none))
  have hG1 : (G : Int) ≤ 9223372036854775807 := by unfold maxLen at hGm; omega
  generalize w.drew.alloc (.cells (Builtin.zeroCells (Value.agg #[.int .i64 0, .int .i64 0]).cells n ++ Builtin.zeroCells (Value.agg #[.int .i64 0, .int .i64 0]).cells (G - n)) 40) = w3 at *
  clear hsz hGm
  go_enter Try.func54, Try.ntmps54
  go_wp2_with (at_builtin; refine Lib.wpList_append_run _ rfl _ _ _ _ rfl _ _ rfl rfl _ _ (hrz _) ?_)
  go_wp2_with fail
  go_ret
  exact ⟨G, rfl, HG.out, HO.out⟩

set_option maxRecDepth 100000 in
set_option maxHeartbeats 4000000 in
theorem concat_any (g c : Nat) (L : List (Value × List Rg)) (w : World) (h : ∀ j (hj : j < L.length), w.cell? ⟨g, j, none⟩ = some (L[j]).1 ∧ SlAt w (L[j]).1 (L[j]).2) (hl : L.length ≤ 10) (h0 : 0 < (catL L).length) (h1 : (catL L).length ≤ 1000) :
    Calls Try.prog 50 #[.slice (some ⟨g, 0, none⟩) L.length c] w (CcPost w (catL L)) := by
  obtain ⟨i0, hi, hz0, hz1, hz2⟩ := info_of infoRg
  have H := Lib.hid h
  clear h
  go_enter Try.func50, Try.ntmps50
  go_wp2_with fail
  go_loopw [3, 11] (fun n i wr => C1Rel w L n i wr) (fun _ i _ => L.length - (intOf i).toNat)
  case atStart => exact ⟨0, Nat.zero_le _, rfl, by simp [catL], World.grownBy.refl _ _⟩
  case round =>
    obtain ⟨j, hj, rfl, rfl, hg⟩ := hrel
    have HS := Lib.hid hg
    clear hg
    by_cases hlt : j < L.length
    · obtain ⟨d0, hsl⟩ := H.out j hlt
      obtain ⟨ad, cc, hs, hnil⟩ := hsl.len
      rw [hs] at d0
      have d1 := HS.out.cell d0 (by simp)
      have hb1 := catL_le L j
      have hb2 := catL_le L (j + 1)
      have HN := Lib.hid (show (catL (L.take (j + 1))).length = (catL (L.take j)).length + (L[j]).2.length by rw [catL_next L j hlt, List.length_append])
      have hN := HN.out
      have hlt' : (j : Int) < (L.length : Int) := by omega
      have hj0 : (0 : Int) ≤ (j : Int) := by omega
      clear hs hnil d0
      generalize (L[j]).2 = q at *
      generalize (catL (L.take j)).length = n1 at *
      have hw : IntKind.i64.wrap ((n1 : Int) + (q.length : Int)) = (n1 : Int) + q.length := IntWalk.i64_in _ (by omega)
      have hlz : ¬ (n1 : Int) + (q.length : Int) < 0 := by omega
      have HQ := Lib.hid (show (n1 : Int) + (q.length : Int) = ((catL (L.take (j + 1))).length : Int) by rw [HN.out]; omega)
      clear hb1 hb2 hN HN
      go_wp2_with fail
      go_roundw
      case rel => exact ⟨j + 1, hlt, by go_num, by rw [HQ.out], HS.out⟩
      case measure => first | (simp [intOf]; done) | (simp [intOf]; omega)
    · obtain rfl : j = L.length := by omega
      rw [List.take_length]
      go_wp2_with fail
      refine (grow_nil _ _ h0 h1).mono ?_
      rintro e w2 ⟨G, rfl, hg, ho⟩
      have H2 := Lib.hid (And.intro (grownBy_trans HS.out hg) (own_base ho HS.out.size))
      clear hg ho
      go_wp2_with fail
      go_loopw [6, 27] (fun v i wr2 => C2Rel w L v i wr2) (fun _ i _ => L.length - (intOf i).toNat)
      case atStart => exact ⟨0, Nat.zero_le _, rfl, H2.out.1, by simpa [catL, rgsV] using H2.out.2⟩
      case round =>
        obtain ⟨j, hj, rfl, hg, hown⟩ := hrel
        have HR := Lib.hid (And.intro hg hown)
        clear hg hown
        by_cases hlt : j < L.length
        · obtain ⟨d0, hsl⟩ := H.out j hlt
          have hb2 := catL_le L (j + 1)
          have HN := Lib.hid (catL_next L j hlt)
          have hN : (catL (L.take (j + 1))).length = (catL (L.take j)).length + (L[j]).2.length := by rw [HN.out, List.length_append]
          have hlt' : (j : Int) < (L.length : Int) := by omega
          have hj0 : (0 : Int) ≤ (j : Int) := by omega
          rcases hsl.kept HR.out.1 with ⟨hs, hnl⟩ | ⟨ad, cc, hs, hcc⟩
          · rw [hs] at d0
            have d1 := HR.out.1.cell d0 (by simp)
            have HE := Lib.hid (show catL (L.take (j + 1)) = catL (L.take j) by rw [HN.out, hnl, List.append_nil])
            clear hs hsl hnl d0 hN hb2
            go_wp2_with (at_builtin; refine wpList_append_own_none rfl _ _ 54 rfl w.heap.size 40 i0 2 Try.underlying54 hi _ _ _ rfl HR.out.2 rfl ?_)
            go_wp2_with fail
            go_roundw
            case rel => exact ⟨j + 1, hlt, by go_num, HR.out.1, by rw [HE.out]; exact HR.out.2⟩
            case measure => first | (simp [intOf]; done) | (simp [intOf]; omega)
          · rw [hs] at d0
            have d1 := HR.out.1.cell d0 (by simp)
            have HC := Lib.hid hcc
            clear hs hsl hcc d0
            generalize (L[j]).2 = q at *
            go_wp2_with (at_builtin; refine wpList_append_own _ rfl _ _ 54 rfl w.heap.size 40 i0 _ 2 16 Try.underlying54 hi hz0 hz1 hz2 rfl (by decide) _ _ _ rfl HR.out.2 ad q.length cc (rgsV q) rfl (rgsV_len q) HC.out (rgsV_one q) ?c3 ?c4 ?c5 ?_)
            case c3 => unfold maxLen; omega
            case c4 => omega
            case c5 => exact HR.out.1.size
            intro v' wz hown1 hg1 _
            have HW := Lib.hid (And.intro (grow_own HR.out.1 hg1 HR.out.2 (Nat.le_refl _)) (show wz.ownsRow w.heap.size 40 2 v' (catL (L.take (j + 1))).length (rgsV (catL (L.take (j + 1)))) by
              rw [HN.out, rgsV_app, List.length_append]
              exact hown1))
            clear hown1 hg1 hN hb2
            go_wp2_with fail
            go_roundw
            case rel => exact ⟨j + 1, hlt, by go_num, HW.out.1, HW.out.2⟩
            case measure => first | (simp [intOf]; done) | (simp [intOf]; omega)
        · obtain rfl : j = L.length := by omega
          have HW := Lib.hid HR.out.2
          rw [List.take_length] at HW
          go_wp2_with fail
          go_ret
          exact ⟨_, rfl, HR.out.1, HW.out⟩

theorem rgsV_at (l : List Rg) (j : Nat) (u : Value) (h : (rgsV l)[j]? = some u) : ∃ i, ∃ hi : i < l.length, (j = i * 2 ∧ u = .int .i64 (l[i]).1) ∨ (j = i * 2 + 1 ∧ u = .int .i64 (l[i]).2) := by
  have hj : j < l.length * 2 := by
    have := (List.getElem?_eq_some_iff.mp h).1
    rwa [rgsV_len] at this
  refine ⟨j / 2, by omega, ?_⟩
  obtain ⟨h0, h1⟩ := rgsV_get l (j / 2) (by omega)
  rcases Nat.mod_two_eq_zero_or_one j with hm | hm
  · left
    have e : j = j / 2 * 2 := by omega
    refine ⟨e, ?_⟩
    rw [← e, h] at h0
    exact Option.some.inj h0
  · right
    have e : j = j / 2 * 2 + 1 := by omega
    refine ⟨e, ?_⟩
    rw [← e, h] at h1
    exact Option.some.inj h1

/-- A slice of pieces as an argument: its cells, and room up to its capacity. -/
def RowOk (w : World) (a : Option Addr) (c : Nat) (l : List Rg) : Prop :=
  (a = none ∧ c = 0 ∧ l = []) ∨ ∃ b off, a = some ⟨b, off, none⟩ ∧ l.length ≤ c ∧ c ≤ 9223372036854775807 ∧ ∀ i (h : i < l.length), w.cell? ⟨b, off + i * 2, none⟩ = some (.int .i64 (l[i]).1) ∧ w.cell? ⟨b, off + i * 2 + 1, none⟩ = some (.int .i64 (l[i]).2)

theorem RowOk.kept {w w' : World} {a : Option Addr} {c : Nat} {l : List Rg} (h : RowOk w a c l) (hg : w.grownBy w' none) : RowOk w' a c l := by
  rcases h with h | ⟨b, off, ha, hc, hm, hi⟩
  · exact .inl h
  · exact .inr ⟨b, off, ha, hc, hm, fun i h => ⟨hg.cell (hi i h).1 (by simp), hg.cell (hi i h).2 (by simp)⟩⟩

theorem RowOk.cells {w : World} {b off c : Nat} {l : List Rg} (h : RowOk w (some ⟨b, off, none⟩) c l) (i : Nat) (hi : i < l.length) : w.cell? ⟨b, off + i * 2, none⟩ = some (.int .i64 (l[i]).1) ∧ w.cell? ⟨b, off + i * 2 + 1, none⟩ = some (.int .i64 (l[i]).2) := by
  rcases h with ⟨h, _⟩ | ⟨b', off', ha, _, _, hc⟩
  · cases h
  · cases ha; exact hc i hi

theorem sl_take {w : World} {b off c k : Nat} {l : List Rg} (h : RowOk w (some ⟨b, off, none⟩) c l) (hk : k ≤ l.length) : SlAt w (.slice (some ⟨b, off, none⟩) k c) (l.take k) := by
  refine .inr ⟨⟨b, off, none⟩, c, by rw [List.length_take, Nat.min_eq_left hk], fun j u hu => ?_⟩
  obtain ⟨i, hi, hh⟩ := rgsV_at _ j u hu
  have hi2 : i < l.length := by rw [List.length_take] at hi; omega
  obtain ⟨c0, c1⟩ := h.cells i hi2
  rw [add_none]
  rcases hh with ⟨rfl, rfl⟩ | ⟨rfl, rfl⟩
  · rw [List.getElem_take]; exact c0
  · rw [List.getElem_take]; exact c1

theorem sl_drop {w : World} {b off c c' k n : Nat} {l : List Rg} (h : RowOk w (some ⟨b, off, none⟩) c l) (hk : k ≤ l.length) (hn : n = l.length - k) : SlAt w (.slice (some ⟨b, off + k * 2, none⟩) n c') (l.drop k) := by
  refine .inr ⟨⟨b, off + k * 2, none⟩, c', by rw [List.length_drop, hn], fun j u hu => ?_⟩
  obtain ⟨i, hi, hh⟩ := rgsV_at _ j u hu
  have hi2 : k + i < l.length := by rw [List.length_drop] at hi; omega
  obtain ⟨c0, c1⟩ := h.cells (k + i) hi2
  rw [add_none]
  rcases hh with ⟨rfl, rfl⟩ | ⟨rfl, rfl⟩
  · rw [List.getElem_drop, show off + k * 2 + i * 2 = off + (k + i) * 2 by omega]; exact c0
  · rw [List.getElem_drop, show off + k * 2 + (i * 2 + 1) = off + (k + i) * 2 + 1 by omega]; exact c1

theorem step_append_own {P : Program} {w : World} {ops : Array Oper} {o : Oper} {a : Act} {K : Act → World → Prop} {Q : Exit → Act → World → Prop} {E : Prop} (hgd : o.guard = none) (s x : Operand) (t : TypeId)
    (ho : o.op = .call { callee := .builtin .append, args := #[s, x], argTypes := #[t, t] })
    (base : Nat) (e : TypeId) (i : TypeInfo) (z : Value) (size bytes : Nat) (ht : P.underlying t = some (.slice e)) (hi : P.info? e = some i) (hz : i.zero = some z)
    (hsize : i.size = size) (hby : i.bytes = bytes) (hzs : z.cells.size = size) (hsz : 0 < size)
    (v : Value) (n : Nat) (xs : List Value) (hs : a.eval s = v) (hown : w.ownsRow base e size v n xs)
    (ad : Addr) (m c : Nat) (news : List Value) (hx : a.eval x = .slice (some ad) m c) (hl : news.length = m * size) (hnews : ∀ j u, news[j]? = some u → w.cell? (ad.add j) = some u) (h1 : ∀ u ∈ news, u.oneCell' = true)
    (h63 : n + m ≤ maxLen) (hbytes : (n + m) * bytes ≤ 140737488355328) (hbase : base ≤ w.heap.size)
    (h : ∀ v' w', w'.ownsRow base e size v' (n + m) (xs ++ news) → w.grownBy w' v.ownBlock → K (a.put o.dst v') w') :
    if Region.wanted o (yielded ops a.tmps) = true then Oper.wp P o a w K Q else E := by
  have hw : Region.wanted o (yielded ops a.tmps) = true := by simp [Region.wanted, hgd]
  rw [if_pos hw]
  exact wp_append_own w s x t ho base e i z size bytes ht hi hz hsize hby hzs hsz v n xs hs hown ad m c news hx hl hnews h1 h63 hbytes hbase fun v' w' h2 h3 _ => h v' w' h2 h3
theorem step_append_nil {P : Program} {w : World} {ops : Array Oper} {o : Oper} {a : Act} {K : Act → World → Prop} {Q : Exit → Act → World → Prop} {E : Prop} (hgd : o.guard = none) (s x : Operand) (t : TypeId)
    (ho : o.op = .call { callee := .builtin .append, args := #[s, x], argTypes := #[t, t] })
    (base : Nat) (e : TypeId) (i : TypeInfo) (size : Nat) (ht : P.underlying t = some (.slice e)) (hi : P.info? e = some i)
    (v : Value) (n : Nat) (xs : List Value) (hs : a.eval s = v) (hown : w.ownsRow base e size v n xs) (hx : a.eval x = .slice none 0 0)
    (h : ∀ v' w', w'.ownsRow base e size v' n xs → w.grownBy w' none → K (a.put o.dst v') w') :
    if Region.wanted o (yielded ops a.tmps) = true then Oper.wp P o a w K Q else E := by
  have hw : Region.wanted o (yielded ops a.tmps) = true := by simp [Region.wanted, hgd]
  rw [if_pos hw]
  have hrun := run_append_owned_none (P := P) (w := w) base t o.type e i size ht hi v n xs hown
  unfold Oper.wp
  simp [execOp, ho, resolve, invoke, builtin, hs, hx, hrun, Result.andThen]
  exact h _ _ hown (World.grownBy.refl _ _)
theorem row_empty (w : World) (T : TypeId) (s B : Nat) (hB : B ≤ w.heap.size) : (w.alloc (.cells #[] T)).ownsRow B T s (.slice (some ⟨w.heap.size, 0, none⟩) 0 0) 0 [] :=
  ⟨by simp, .inr ⟨w.heap.size, 0, #[], rfl, hB, (by show (w.heap.push (Obj.cells #[] T))[w.heap.size]? = _; simp), Nat.le_refl _, by unfold maxLen; omega, by simp, by simp⟩⟩
theorem row_cells {w : World} {b off c : Nat} {l : List Rg} (h : RowOk w (some ⟨b, off, none⟩) c l) : ∀ j u, (rgsV l)[j]? = some u → w.cell? ((⟨b, off, none⟩ : Addr).add j) = some u := fun j u hu => by
  obtain ⟨i, hi, hh⟩ := rgsV_at _ j u hu
  obtain ⟨c0, c1⟩ := h.cells i hi
  rw [add_none]
  rcases hh with ⟨rfl, rfl⟩ | ⟨rfl, rfl⟩
  · exact c0
  · exact c1
theorem own_rowOk {w : World} {B c : Nat} {a : Option Addr} {l : List Rg} (h : OwnRg w B a c l) : RowOk w a c l := by
  rcases h.2 with ⟨hv, h0⟩ | ⟨g, cap, cur, hv, hb, hh, hn, hm, _⟩
  · simp only [Value.slice.injEq] at hv
    exact .inl ⟨hv.1, hv.2.2, List.length_eq_zero_iff.mp h0⟩
  · simp only [Value.slice.injEq] at hv
    obtain ⟨rfl, _, rfl⟩ := hv
    refine .inr ⟨g, 0, rfl, hn, by unfold maxLen at hm; omega, fun i hi => ?_⟩
    obtain ⟨x, y⟩ := rgsV_get l i hi
    rw [Nat.zero_add, h.cellAt (i * 2) (by omega), h.cellAt (i * 2 + 1) (by omega)]
    exact ⟨x, y⟩
theorem RowOk.at {w : World} {a : Option Addr} {c : Nat} {l : List Rg} (h : RowOk w a c l) : RgAt w a l := by
  rcases h with ⟨_, _, h⟩ | ⟨b, off, ha, hc, hm, hi⟩
  · exact .inl h
  · by_cases h0 : l.length = 0
    · exact .inl (List.length_eq_zero_iff.mp h0)
    · exact .inr ⟨b, off, ha, cell_in (hi 0 (by omega)).1, hi⟩

set_option maxRecDepth 100000 in
set_option maxHeartbeats 4000000 in
theorem clone_any (a : Option Addr) (c : Nat) (l : List Rg) (w : World) (h : RowOk w a c l) (hl : l.length ≤ 1000) :
    Calls Try.prog 32 #[.slice a l.length c] w (CcPost w l) := by
  obtain ⟨i0, hi, hz0, hz1, hz2⟩ := info_of infoRg
  rcases h with ⟨rfl, rfl, rfl⟩ | ⟨b, off, rfl, hc, hm, hcs⟩
  · have he : ∀ w : World, (binOp .eql 24 (.slice none 0 0) (.slice none 0 0)).run Try.prog w = .ok (.bool true) w := fun _ => rfl
    go_enter Try.func32, Try.ntmps32
    go_wp2_with fail
    go_ret
    exact ⟨_, rfl, World.grownBy.refl _ _, World.ownsRow_nil _ _ _ _⟩
  · have HC := Lib.hid (row_cells (show RowOk w (some ⟨b, off, none⟩) c l from .inr ⟨b, off, rfl, hc, hm, hcs⟩))
    have HA := Lib.hid (World.grownBy_alloc w (.cells #[] 40) none)
    clear hcs
    have he : ∀ w : World, (binOp .eql 24 (.slice (some ⟨b, off, none⟩) l.length c) (.slice none 0 0)).run Try.prog w = .ok (.bool false) w := fun _ => rfl
    go_enter Try.func32, Try.ntmps32
    go_wp2_with (at_builtin; refine wpList_append_own _ rfl _ _ 24 rfl w.heap.size 40 i0 _ 2 16 Try.underlying24 hi hz0 hz1 hz2 rfl (by decide) _ 0 [] rfl (row_empty w _ _ _ (Nat.le_refl _)) ⟨b, off, none⟩ l.length c (rgsV l) rfl (rgsV_len l) ?c2 (rgsV_one l) ?c3 ?c4 ?c5 ?_)
    case c2 => exact fun j u hu => HA.out.cell (HC.out j u hu) (by simp)
    case c3 => unfold maxLen; omega
    case c4 => omega
    case c5 => exact HA.out.size
    intro v' wz hown1 hg1 _
    have HW := Lib.hid (And.intro (grow_own HA.out hg1 (row_empty w 40 2 _ (Nat.le_refl _)) (Nat.le_refl _)) (show wz.ownsRow w.heap.size 40 2 v' l.length (rgsV l) by simpa using hown1))
    clear hown1 hg1
    go_wp2_with fail
    go_ret
    exact ⟨_, rfl, HW.out.1, HW.out.2⟩

theorem own_setB {w : World} {B C o c : Nat} {a : Option Addr} {v : Value} {l : List Rg} (h : OwnRg w B a c l) (hne : C < B) : OwnRg (w.setCell ⟨C, o, none⟩ v) B a c l := by
  refine h.kept (grownBy_set w C o v) ?_
  cases hv : Value.ownBlock (.slice a l.length c) with
  | none => exact .inl rfl
  | some g =>
    refine .inr fun e => ?_
    have := (h.lt g hv).1
    simp at e
    omega
def CopyPost (w : World) (u n : Int) (l : List Rg) (e : Ending) (w' : World) : Prop :=
  ∃ a c, e = .returned (bdV u n a l.length c) ∧ w.grownBy w' none ∧ OwnRg w' w.heap.size a c l
theorem bd_two (w : World) (x y z x' y' z' : Value) (T U : TypeId) : Mine w (bdCells w.heap.size x y z ++ bdCells (w.heap.size + 1) x' y' z') ((w.alloc (.cells #[x, y, z] T)).alloc (.cells #[x', y', z'] U)) := by
  have h1 := bd_new w x y z T
  have e1 := alloc_size w (.cells #[x, y, z] T)
  generalize w.alloc (.cells #[x, y, z] T) = w1 at *
  have h2 := bd_new w1 x' y' z' U
  have h2b := h2.base h1.grown
  rw [e1] at h2b
  have j1 := h1.kept h2.grown
  refine ⟨j1.grown, fun x hx => ?_⟩
  rcases List.mem_append.mp hx with hx | hx
  · exact j1.all x hx
  · exact h2b.all x hx

set_option maxRecDepth 100000 in
set_option maxHeartbeats 4000000 in
theorem copy_any (u n : Int) (a : Option Addr) (c : Nat) (l : List Rg) (w : World) (h : RowOk w a c l) (hl : l.length ≤ 1000) :
    Calls Try.prog 34 #[bdV u n a l.length c] w (CopyPost w u n l) := by
  obtain ⟨i0, hi, hz0, hz1, hz2⟩ := info_of infoRg
  have hM := bd_two w (.int .i64 u) (.int .i64 n) (.slice a l.length c) (.int .i64 0) (.int .i64 0) (.slice none 0 0) 26 26
  have hz : ((w.alloc (.cells #[.int .i64 u, .int .i64 n, .slice a l.length c] 26)).alloc (.cells #[.int .i64 0, .int .i64 0, .slice none 0 0] 26)).heap.size = w.heap.size + 1 + 1 := by rw [alloc_size, alloc_size]
  have HM := Lib.hid (And.intro hM (And.intro (h.kept hM.grown) hz))
  clear hM hz
  rcases h with ⟨rfl, rfl, rfl⟩ | ⟨b, off, rfl, hc, hm, hcs⟩
  · go_enter Try.func34, Try.ntmps34
    go_wp2_with fail
    generalize (w.alloc (.cells #[.int .i64 u, .int .i64 n, .slice none 0 0] 26)).alloc (.cells #[.int .i64 0, .int .i64 0, .slice none 0 0] 26) = w2 at *
    obtain ⟨b0, b1, b2⟩ := bd_facts HM.out.1.left
    obtain ⟨r0, r1, r2⟩ := bd_facts HM.out.1.right
    obtain ⟨f0, f1, f2⟩ := bd_frees HM.out.1.right
    have hB0 : w.heap.size < w2.heap.size := cell_in b0
    have hB1 : w.heap.size + 1 < w2.heap.size := cell_in r0
    have hg2 : w2.grownBy (w2.alloc (.cells #[] 40)).drew none := grownBy_trans (World.grownBy_alloc _ _ _) grownBy_drew
    have HG2 := Lib.hid hg2
    clear hg2
    have HO := Lib.hid (fun h => World.ownsRow.kept (row_empty w2 40 2 w2.heap.size h) (grownBy_drew (r := none)) (by simp [Value.ownBlock]))
    go_region_held3 (fun w' => w'.cell? ⟨w.heap.size, 0, none⟩ = some (.int .i64 u) ∧ w'.cell? ⟨w.heap.size, 1, none⟩ = some (.int .i64 n) ∧ w'.cell? ⟨w.heap.size, 2, none⟩ = some (.slice none 0 0)) ((refine ⟨by first | with_reducible assumption | (go_simp; done) | (simp [*]; done), by first | with_reducible assumption | (go_simp; done) | (simp [*]; done), by first | with_reducible assumption | (go_simp; done) | (simp [*]; done)⟩))
      ((refine step_append_nil (by rfl) _ _ _ (by rfl) w2.heap.size 40 i0 2 Try.underlying24 hi _ 0 [] (by rfl) (HO.out (Nat.le_refl _)) (by rfl) ?_; intro v' w3 hown1 hgrow; obtain ⟨ao, cc, rfl⟩ := own_slice hown1; have hM3 := (HM.out.1.kept HG2.out).kept hgrow; obtain ⟨q0, q1, q2⟩ := bd_facts hM3.left; obtain ⟨t0, t1, t2⟩ := bd_facts hM3.right; obtain ⟨y0, y1, y2⟩ := bd_frees hM3.right; have HF := Lib.hid (And.intro hM3 hown1)))
    go_wp2_with fail
    have hgr := res3_grown (R := w.heap.size + 1) (.int .i64 u) (.int .i64 n) (.slice ao 0 cc) HF.out.1.grown (by omega)
    have hap : w.heap.size + 1 < w2.heap.size := hB1
    refine bodyPost_ret (v := bdV u n ao 0 cc) ?_ rfl ⟨ao, cc, rfl, hgr, ?_⟩
    · simp [results, Try.results34, go_sem, t0, t1, t2]
    · exact own_base (own_setB (l := []) (own_setB (l := []) (own_setB (l := []) HF.out.2 hap) hap) hap) HM.out.1.grown.size
  · go_enter Try.func34, Try.ntmps34
    go_wp2_with fail
    generalize (w.alloc (.cells #[.int .i64 u, .int .i64 n, .slice (some ⟨b, off, none⟩) l.length c] 26)).alloc (.cells #[.int .i64 0, .int .i64 0, .slice none 0 0] 26) = w2 at *
    obtain ⟨b0, b1, b2⟩ := bd_facts HM.out.1.left
    obtain ⟨r0, r1, r2⟩ := bd_facts HM.out.1.right
    obtain ⟨f0, f1, f2⟩ := bd_frees HM.out.1.right
    have hB0 : w.heap.size < w2.heap.size := cell_in b0
    have hB1 : w.heap.size + 1 < w2.heap.size := cell_in r0
    have HC := Lib.hid (row_cells (show RowOk w2 (some ⟨b, off, none⟩) c l from HM.out.2.1))
    have hg2 : w2.grownBy (w2.alloc (.cells #[] 40)).drew none := grownBy_trans (World.grownBy_alloc _ _ _) grownBy_drew
    have HG2 := Lib.hid hg2
    clear hg2
    have HO := Lib.hid (fun h => World.ownsRow.kept (row_empty w2 40 2 w2.heap.size h) (grownBy_drew (r := none)) (by simp [Value.ownBlock]))
    go_region_held3 (fun w' => w'.cell? ⟨w.heap.size, 0, none⟩ = some (.int .i64 u) ∧ w'.cell? ⟨w.heap.size, 1, none⟩ = some (.int .i64 n) ∧ w'.cell? ⟨w.heap.size, 2, none⟩ = some (.slice (some ⟨b, off, none⟩) l.length c)) ((refine ⟨by first | with_reducible assumption | (go_simp; done) | (simp [*]; done), by first | with_reducible assumption | (go_simp; done) | (simp [*]; done), by first | with_reducible assumption | (go_simp; done) | (simp [*]; done)⟩))
      ((refine step_append_own (by rfl) _ _ _ (by rfl) w2.heap.size 40 i0 _ 2 16 Try.underlying24 hi hz0 hz1 hz2 rfl (by decide) _ 0 [] (by rfl) (HO.out (Nat.le_refl _)) ⟨b, off, none⟩ l.length c (rgsV l) (by rfl) (rgsV_len l) (fun j u hu => HG2.out.cell (HC.out j u hu) (by simp)) (rgsV_one l) (by unfold maxLen; omega) (by omega) HG2.out.size ?_; intro v' w3 hown1 hgrow; obtain ⟨ao, cc, rfl⟩ := own_slice hown1; have hM3 := (HM.out.1.kept HG2.out).keptR hgrow (grow_own (grownBy_trans HM.out.1.grown HG2.out) hgrow (HO.out (Nat.le_refl _)) HM.out.1.grown.size) (fun g hgg x hx => by simp [Value.ownBlock] at hgg; subst hgg; simp [bdCells] at hx; rcases hx with rfl | rfl | rfl | rfl | rfl | rfl <;> simp <;> omega); obtain ⟨q0, q1, q2⟩ := bd_facts hM3.left; obtain ⟨t0, t1, t2⟩ := bd_facts hM3.right; obtain ⟨y0, y1, y2⟩ := bd_frees hM3.right; have HF := Lib.hid (And.intro hM3 hown1)))
    simp only [Nat.zero_add, List.nil_append] at HF
    go_wp2_with fail
    have hgr := res3_grown (R := w.heap.size + 1) (.int .i64 u) (.int .i64 n) (.slice ao l.length cc) HF.out.1.grown (by omega)
    have hap : w.heap.size + 1 < w2.heap.size := hB1
    refine bodyPost_ret (v := bdV u n ao l.length cc) ?_ rfl ⟨ao, cc, rfl, hgr, ?_⟩
    · simp [results, Try.results34, go_sem, t0, t1, t2]
    · exact own_base (own_setB (own_setB (own_setB HF.out.2 hap) hap) hap) HM.out.1.grown.size

end Go.Proofs.Ytedgfiagefhahaa
