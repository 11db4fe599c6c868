/- Wp -/
import Derived.Test.YtedhemllgpbheaaQ23
import Derived.Deep.DeepCutAuto
import Derived.LoopTactic
namespace Go.Proofs.Ytedhemllgpbheaa
open Go.RowKit
open P7 (Pk PkAt pksV)

/-- A row as an argument of append. -/
def Src (w : World) (size : Nat) (xv : Value) (m : Nat) (news : List Value) : Prop :=
  (xv = .slice none 0 0 ∧ m = 0 ∧ news = []) ∨ ∃ ad c, xv = .slice (some ad) m c ∧ news.length = m * size ∧ ∀ j u, news[j]? = some u → w.cell? (ad.add j) = some u
theorem Src.kept {w w' : World} {size m : Nat} {xv : Value} {news : List Value} (h : Src w size xv m news) (hg : w.grownBy w' none) : Src w' size xv m news := by
  rcases h with h | ⟨ad, c, h1, h2, h3⟩
  · exact .inl h
  · exact .inr ⟨ad, c, h1, h2, fun j u hu => hg.cell (h3 j u hu) (by simp)⟩
theorem step_append_src {P : Program} {w : World} {ops : Array Oper} {o : Oper} {a : Act} {K : Act → World → Prop} {Q : Exit → Act → World → Prop} {E : Prop} (hgd : o.guard = none) (s x : Operand) (t : TypeId)
    (ho : o.op = .call { callee := .builtin .append, args := #[s, x], argTypes := #[t, t] })
    (base : Nat) (e : TypeId) (i : TypeInfo) (z : Value) (size bytes : Nat) (ht : P.underlying t = some (.slice e)) (hi : P.info? e = some i) (hz : i.zero = some z)
    (hsize : i.size = size) (hby : i.bytes = bytes) (hzs : z.cells.size = size) (hsz : 0 < size)
    (v : Value) (n : Nat) (xs : List Value) (hs : a.eval s = v) (hown : w.ownsRow base e size v n xs)
    (xv : Value) (m : Nat) (news : List Value) (hx : a.eval x = xv) (hq : Src w size xv m news) (h1 : ∀ u ∈ news, u.oneCell' = true)
    (h63 : n + m ≤ maxLen) (hbytes : (n + m) * bytes ≤ 140737488355328) (hbase : base ≤ w.heap.size)
    (h : ∀ v' w', w'.ownsRow base e size v' (n + m) (xs ++ news) → w.grownBy w' v.ownBlock → K (a.put o.dst v') w') :
    if Region.wanted o (yielded ops a.tmps) = true then Oper.wp P o a w K Q else E := by
  rcases hq with ⟨rfl, rfl, rfl⟩ | ⟨ad, c, rfl, hl, hc⟩
  · exact step_append_nil hgd s x t ho base e i size ht hi v n xs hs hown hx fun v' w' h2 h3 => h v' w' (by simpa using h2) (by
      refine ⟨h3.os, h3.tape, h3.output, h3.size, fun k hk _ => h3.block k hk (by simp)⟩)
  · exact step_append_own hgd s x t ho base e i z size bytes ht hi hz hsize hby hzs hsz v n xs hs hown ad m c news hx hl hc h1 h63 hbytes hbase h
theorem step_append_srcA {P : Program} {w : World} {ops : Array Oper} {o : Oper} {a : Act} {K : Act → World → Prop} {Q : Exit → Act → World → Prop} {E : Prop} (hgd : o.guard = none) (s x : Operand) (t : TypeId)
    (ho : o.op = .call { callee := .builtin .append, args := #[s, x], argTypes := #[t, t] })
    (base : Nat) (e : TypeId) (i : TypeInfo) (z : Value) (size bytes : Nat) (ht : P.underlying t = some (.slice e)) (hi : P.info? e = some i) (hz : i.zero = some z)
    (hsize : i.size = size) (hby : i.bytes = bytes) (hzs : z.cells.size = size) (hsz : 0 < size)
    (v : Value) (n : Nat) (xs : List Value) (hs : a.eval s = v) (hown : w.ownsRow base e size v n xs)
    (xv : Value) (m : Nat) (news : List Value) (hx : a.eval x = xv) (hq : Src w size xv m news) (h1 : ∀ u ∈ news, u.oneCell' = true)
    (h63 : n + m ≤ maxLen) (hbytes : (n + m) * bytes ≤ 140737488355328) (hbase : base ≤ w.heap.size)
    (h : ∀ v' w', w'.ownsRow base e size v' (n + m) (xs ++ news) → w.grownBy w' v.ownBlock → (v'.ownBlock = v.ownBlock ∨ v'.ownBlock = some w.heap.size) → K (a.put o.dst v') w') :
    if Region.wanted o (yielded ops a.tmps) = true then Oper.wp P o a w K Q else E := by
  rcases hq with ⟨rfl, rfl, rfl⟩ | ⟨ad, c, rfl, hl, hc⟩
  · have hw : Region.wanted o (yielded ops a.tmps) = true := by simp [Region.wanted, hgd]
    rw [if_pos hw]
    have hrun := run_append_owned_none (P := P) (w := w) base t o.type e i size ht hi v n xs hown
    unfold Oper.wp
    simp [execOp, ho, resolve, invoke, builtin, hs, hx, hrun, Result.andThen]
    exact h _ _ (by simpa using hown) ⟨rfl, rfl, rfl, Nat.le_refl _, fun _ _ _ => rfl⟩ (.inl rfl)
  · have hw : Region.wanted o (yielded ops a.tmps) = true := by simp [Region.wanted, hgd]
    rw [if_pos hw]
    obtain ⟨v', w', hr, h2, h3, _, h5⟩ := run_append_own_at (P := P) w base t o.type e i z size bytes ht hi hz hsize hby hzs hsz v n xs hown ad m c news hl hc h1 h63 hbytes hbase
    unfold Oper.wp execOp
    simp only [ho, resolve, invoke, builtin, Sem.run_bind, Sem.run_pure, Result.andThen_ok, List.map_toArray, List.map_cons, List.map_nil, hs, hx, hr]
    exact h v' w' h2 h3 h5
theorem src_rg {w : World} {a : Option Addr} {c : Nat} {l : List Rg} (h : RowOk w a c l) : Src w 2 (.slice a l.length c) l.length (rgsV l) := by
  have h' := h
  rcases h with ⟨rfl, rfl, rfl⟩ | ⟨b, off, rfl, h2, h3, h4⟩
  · exact .inl ⟨rfl, rfl, rfl⟩
  · exact .inr ⟨⟨b, off, none⟩, c, rfl, rgsV_len l, row_cells h'⟩
theorem pksV_at (l : List Pk) (j : Nat) (u : Value) (h : (pksV l)[j]? = some u) : ∃ i, ∃ hi : i < l.length, (j = i * 2 ∧ u = .int .i64 (l[i]).1) ∨ (j = i * 2 + 1 ∧ u = .string ⟨(l[i]).2.toArray⟩) := by
  have hj : j < l.length * 2 := by
    have := (List.getElem?_eq_some_iff.mp h).1
    rwa [P7.pksV_len] at this
  have hi : j / 2 < l.length := by omega
  obtain ⟨x, y⟩ := P7.pksV_get l (j / 2) hi
  refine ⟨j / 2, hi, ?_⟩
  rcases Nat.mod_two_eq_zero_or_one j with hm | hm
  · left
    have e : j / 2 * 2 = j := by omega
    rw [e, h] at x
    exact ⟨e.symm, Option.some.inj x⟩
  · right
    have e : j / 2 * 2 + 1 = j := by omega
    rw [e, h] at y
    exact ⟨e.symm, Option.some.inj y⟩
theorem src_pk {w : World} {a : Option Addr} {c : Nat} {l : List Pk} (h : PkRow w a c l) : Src w 2 (.slice a l.length c) l.length (pksV l) := by
  rcases h with ⟨rfl, rfl, rfl⟩ | ⟨b, off, rfl, h2, h3⟩
  · exact .inl ⟨rfl, rfl, rfl⟩
  · refine .inr ⟨⟨b, off, none⟩, c, rfl, P7.pksV_len l, fun j u hu => ?_⟩
    obtain ⟨i, hi, hh⟩ := pksV_at l j u hu
    rw [add_none]
    rcases hh with ⟨rfl, rfl⟩ | ⟨rfl, rfl⟩
    · exact (h3 i hi).1
    · rw [← Nat.add_assoc]; exact (h3 i hi).2
theorem pk_one (l : List Pk) : ∀ u ∈ pksV l, u.oneCell' = true := by
  intro u hu
  obtain ⟨j, hj, e⟩ := List.getElem_of_mem hu
  obtain ⟨i, hi, hh⟩ := pksV_at l j u (by rw [List.getElem?_eq_getElem hj, e])
  rcases hh with ⟨_, rfl⟩ | ⟨_, rfl⟩ <;> rfl
theorem nt_one (l : List Nt) : ∀ u ∈ ntsV l, u.oneCell' = true := by
  intro u hu
  obtain ⟨x, _, hx⟩ := List.mem_flatMap.mp hu
  simp only [ntL, List.mem_cons, List.not_mem_nil, or_false] at hx
  rcases hx with rfl | rfl | rfl | rfl <;> rfl
theorem row_emptyG (w : World) (T : TypeId) (s B : Nat) (hB : B ≤ w.heap.size) : (w.alloc (.cells #[] T)).ownsRow B T s (.slice (some ⟨w.heap.size, 0, none⟩) 0 0) 0 [] :=
  ⟨by simp, .inr ⟨w.heap.size, 0, #[], rfl, hB, (by show (w.heap.push (Obj.cells #[] T))[w.heap.size]? = _; simp), Nat.le_refl _, by unfold maxLen; omega, by simp, by simp⟩⟩
theorem row_first (w : World) (T : TypeId) (s : Nat) : (w.alloc (.cells #[] T)).drew.ownsRow w.heap.size T s (.slice (some ⟨w.heap.size, 0, none⟩) 0 0) 0 [] ∧ w.grownBy (w.alloc (.cells #[] T)).drew none := by
  have hg : w.grownBy (w.alloc (.cells #[] T)).drew none := grownBy_trans (World.grownBy_alloc _ _ _) grownBy_drew
  exact ⟨(row_emptyG w T s w.heap.size (Nat.le_refl _)).kept (grownBy_drew (r := none)) (by simp [Value.ownBlock]), hg⟩

/-- A copy of notes under way. -/
structure CpAt (w wr : World) (b : Option Addr) (cc : Nat) (us : List Nt) : Prop where
  g : w.grownBy wr none
  row : wr.ownsRow w.heap.size 33 4 (.slice b us.length cc) us.length (ntsV us)
  sub : ∀ x ∈ us, RowOk wr x.a x.c x.l ∧ (∀ k, bkA x.a = some k → w.heap.size ≤ k ∧ k < wr.heap.size) ∧ Dj b x.a
theorem CpAt.keep {w wr w' : World} {b : Option Addr} {cc : Nat} {us : List Nt} (h : CpAt w wr b cc us) (hg : wr.grownBy w' none) : CpAt w w' b cc us :=
  ⟨grownBy_trans h.g hg, own_kept h.row hg, fun x hx => ⟨(h.sub x hx).1.kept hg, fun k hk => ⟨((h.sub x hx).2.1 k hk).1, Nat.lt_of_lt_of_le ((h.sub x hx).2.1 k hk).2 hg.size⟩, (h.sub x hx).2.2⟩⟩
theorem CpAt.next {w wr w7 w8 : World} {b : Option Addr} {cc g c H : Nat} {us : List Nt} {x : Nt} (h : CpAt w wr b cc us) (h7 : wr.grownBy w7 none) (hx : RowOk w7 x.a x.c x.l) (hb : ∀ k, bkA x.a = some k → wr.heap.size ≤ k ∧ k < w7.heap.size)
    (hr : w8.ownsRow w.heap.size 33 4 (.slice (some ⟨g, 0, none⟩) (us.length + 1) c) (us.length + 1) (ntsV us ++ ntL x)) (hg : w7.grownBy w8 (Value.ownBlock (.slice b us.length cc))) (hat : Value.ownBlock (.slice b us.length cc) = some g ∨ g = H) (hH : w7.heap.size = H) : CpAt w w8 (some ⟨g, 0, none⟩) c (us ++ [x]) := by
  rw [own_bk] at hg hat
  have hl := own_lt h.row
  have h' := h.keep h7
  have es : ∀ a, Dj b a → (∀ k, bkA a = some k → k < w7.heap.size) → Sm a w7 w8 := fun a k l q hq => hg.block q (l q hq) (fun e => k q e.symm hq)
  have hat2 : bkA (some (⟨g, 0, none⟩ : Addr)) = bkA b ∨ bkA (some (⟨g, 0, none⟩ : Addr)) = some w7.heap.size := by
    rcases hat with e | e
    · exact .inl e.symm
    · exact .inr (by rw [hH, e]; rfl)
  have dx : Dj b x.a := fun q h1 h2 => by have := (hb q h2).1; have := (hl q h1).2; omega
  have w8s := hg.size
  refine ⟨?_, ?_, fun y hy => ?_⟩
  · exact ⟨hg.os.trans h'.g.os, hg.tape.trans h'.g.tape, hg.output.trans h'.g.output, Nat.le_trans h'.g.size hg.size, fun k hk _ => (hg.block k (Nat.lt_of_lt_of_le hk h'.g.size) (fun e => by have := (hl k e.symm).1; omega)).trans (h'.g.block k hk (by simp))⟩
  · have e : ntsV (us ++ [x]) = ntsV us ++ ntL x := by simp [ntsV]
    rw [e, List.length_append]
    exact hr
  · rcases List.mem_append.mp hy with hy | hy
    · obtain ⟨y1, y2, y3⟩ := h'.sub y hy
      exact ⟨rowOk_of y1 (es _ y3 fun k hk => (y2 k hk).2), fun k hk => ⟨(y2 k hk).1, Nat.lt_of_lt_of_le (y2 k hk).2 w8s⟩, dj_new hat2 y3 fun k hk => (y2 k hk).2⟩
    · rw [List.mem_singleton.mp hy]
      have h0 := h.g.size
      exact ⟨rowOk_of hx (es _ dx fun k hk => (hb k hk).2), fun k hk => ⟨by have := (hb k hk).1; omega, Nat.lt_of_lt_of_le (hb k hk).2 w8s⟩, dj_new hat2 dx fun k hk => (hb k hk).2⟩
def CpPost (w : World) (l : List Nt) (e : Ending) (w' : World) : Prop :=
  ∃ (b : Option Addr) (cc : Nat) (us : List Nt), e = .returned (.slice b us.length cc) ∧ us.map Nt.o = l.map Nt.o ∧ CpAt w w' b cc us
def CpRel (w : World) (l : List Nt) (v i : Value) (wr : World) : Prop :=
  ∃ (j : Nat) (b : Option Addr) (cc : Nat) (us : List Nt), j ≤ l.length ∧ i = .int .i64 (j : Int) ∧ v = .slice b us.length cc ∧ us.map Nt.o = (l.take j).map Nt.o ∧ CpAt w wr b cc us
theorem cp_next (l us : List Nt) (j : Nat) (h : j < l.length) (hu : us.map Nt.o = (l.take j).map Nt.o) (x : Nt) (hx : x.o = (l[j]).o) : (us ++ [x]).map Nt.o = (l.take (j + 1)).map Nt.o := by
  rw [List.take_succ_eq_append_getElem h, List.map_append, List.map_append, hu]
  simp [hx]

set_option maxRecDepth 100000 in
set_option maxHeartbeats 4000000 in
theorem cpn_S (a : Option Addr) (c : Nat) (l : List Nt) (w : World) (h : NtRow w a c l) (hl : l.length ≤ 1000) (hm : ∀ x ∈ l, x.l.length ≤ 1000) : Calls Try.prog 45 #[.slice a l.length c] w (CpPost w l) := by
  obtain ⟨i0, hi, hz0, hz1, hz2⟩ := info_of infoRg
  obtain ⟨i1, ki, kz0, kz1, kz2⟩ := info_of infoNt
  have H := Lib.hid h
  clear h
  go_enter Try.func45, Try.ntmps45
  go_wp2_with fail
  go_loopw [3, 4] (fun v i wr => CpRel w l v i wr) (fun _ i _ => l.length - (intOf i).toNat)
  case atStart => exact ⟨0, some ⟨w.heap.size, 0, none⟩, 0, [], Nat.zero_le _, rfl, rfl, rfl, World.grownBy_alloc _ _ _, row_emptyG w 33 4 _ (Nat.le_refl _), by simp⟩
  case round =>
    obtain ⟨j, bo, bc, us, hj, rfl, rfl, hu, hc⟩ := hrel
    have HC := Lib.hid hc
    have HU := Lib.hid hu
    have hul : us.length = j := by have := congrArg List.length hu; simp at this; omega
    have HL := Lib.hid hul
    clear hc hu hul
    by_cases hlt : j < l.length
    · rcases H.out.1 with h0 | ⟨b, off, rfl, hb, hcs⟩
      · obtain ⟨_, _, rfl⟩ := h0
        simp at hlt
      · have hx := H.out.2 _ (List.getElem_mem hlt)
        have HNX := Lib.hid (cp_next l us j hlt HU.out)
        have hml := hm _ (List.getElem_mem hlt)
        obtain ⟨c0, c1, c2, c3⟩ := hcs j hlt
        have HX := Lib.hid (hx.kept HC.out.g)
        clear hx hcs
        generalize l[j] = x at *
        obtain ⟨xk, xf, xn, xa, xc, xl⟩ := x
        dsimp only at c0 c1 c2 c3 HX hml
        have hlt2 : (j : Int) < (l.length : Int) := by omega
        go_upto_region 5 with fail
        refine wp_region_held_drew (S := fun w' => w'.cell? ⟨b, off + j * 4, none⟩ = some (.int .i64 xk) ∧ w'.cell? ⟨b, off + j * 4 + 1, none⟩ = some (.int .i64 xf) ∧ w'.cell? ⟨b, off + j * 4 + 2, none⟩ = some (.int .i64 xn) ∧ w'.cell? ⟨b, off + j * 4 + 3, none⟩ = some (.slice xa xl.length xc) ∧ w.grownBy w' none) (by kernel_rfl) (by have hd : w.grownBy wr.drew none := grownBy_trans HC.out.g grownBy_drew; exact ⟨(hd).cell c0 (by simp), (hd).cell c1 (by simp), (hd).cell c2 (by simp), (hd).cell c3 (by simp), hd⟩) (fun hS => ?_)
        refine wpAnyH_take (i := 0) (v := ?_) rfl (by kernel_rfl) (by kernel_rfl) (by kernel_rfl) (fun _ _ _ h => h) (Or.inl ⟨by kernel_rfl, ?_⟩) hS ?_
        rotate_left
        · intro w' hSw
          obtain ⟨g0, g1, g2, g3, _⟩ := hSw
          first | (go_simp; done) | (go_simp; with_reducible rfl)
        simp only [List.getElem_toArray, List.getElem_cons_zero, Act.put, List.setIfInBounds_toArray, List.set_cons_zero, List.set_cons_succ]
        refine wpAnyH_take (i := 1) (v := ?_) rfl (by kernel_rfl) (by kernel_rfl) (by kernel_rfl) (fun _ _ _ h => h) (Or.inl ⟨by kernel_rfl, ?_⟩) hS ?_
        rotate_left
        · intro w' hSw
          obtain ⟨g0, g1, g2, g3, _⟩ := hSw
          first | (go_simp; done) | (go_simp; with_reducible rfl)
        simp only [List.getElem_toArray, List.getElem_cons_zero, List.getElem_cons_succ, Act.put, List.setIfInBounds_toArray, List.set_cons_zero, List.set_cons_succ]
        refine wpAnyH_take (i := 2) (v := ?_) rfl (by kernel_rfl) (by kernel_rfl) (by kernel_rfl) (fun _ _ _ h => h) (Or.inl ⟨by kernel_rfl, ?_⟩) hS ?_
        rotate_left
        · intro w' hSw
          obtain ⟨g0, g1, g2, g3, _⟩ := hSw
          first | (go_simp; done) | (go_simp; with_reducible rfl)
        simp only [List.getElem_toArray, List.getElem_cons_zero, List.getElem_cons_succ, Act.put, List.setIfInBounds_toArray, List.set_cons_zero, List.set_cons_succ]
        refine wpAnyH_take (i := 3) (v := ?_) rfl (by kernel_rfl) (by kernel_rfl) (by kernel_rfl) (fun _ _ _ h => h) (Or.inl ⟨by kernel_rfl, ?_⟩) hS ?_
        rotate_left
        · intro w' hSw
          obtain ⟨g0, g1, g2, g3, _⟩ := hSw
          first | (go_simp; done) | (go_simp; with_reducible rfl)
        simp only [List.getElem_toArray, List.getElem_cons_zero, List.getElem_cons_succ, Act.put, List.setIfInBounds_toArray, List.set_cons_zero, List.set_cons_succ]
        refine wpAnyH_take (i := 4) (v := ?_) rfl (by kernel_rfl) (by kernel_rfl) (by kernel_rfl) (fun _ _ _ h => h) (Or.inl ⟨by kernel_rfl, ?_⟩) hS ?_
        rotate_left
        · intro w' hSw
          obtain ⟨g0, g1, g2, g3, _⟩ := hSw
          first | (go_simp; done) | (go_simp; with_reducible rfl)
        simp only [List.getElem_toArray, List.getElem_cons_zero, List.getElem_cons_succ, Act.put, List.setIfInBounds_toArray, List.set_cons_zero, List.set_cons_succ]
        refine wpAnyH_take (i := 5) (v := ?_) rfl (by kernel_rfl) (by kernel_rfl) (by kernel_rfl) (fun _ _ _ h => h) (Or.inl ⟨by kernel_rfl, ?_⟩) hS ?_
        rotate_left
        · intro w' hSw
          obtain ⟨g0, g1, g2, g3, _⟩ := hSw
          first | (go_simp; done) | (go_simp; with_reducible rfl)
        simp only [List.getElem_toArray, List.getElem_cons_zero, List.getElem_cons_succ, Act.put, List.setIfInBounds_toArray, List.set_cons_zero, List.set_cons_succ]
        refine wpAnyH_take (i := 6) (v := ?_) rfl (by kernel_rfl) (by kernel_rfl) (by kernel_rfl) (fun _ _ _ h => h) (Or.inl ⟨by kernel_rfl, ?_⟩) hS ?_
        rotate_left
        · intro w' hSw
          obtain ⟨g0, g1, g2, g3, _⟩ := hSw
          first | (go_simp; done) | (go_simp; with_reducible rfl)
        simp only [List.getElem_toArray, List.getElem_cons_zero, List.getElem_cons_succ, Act.put, List.setIfInBounds_toArray, List.set_cons_zero, List.set_cons_succ]
        refine wpAnyH_take (i := 7) (v := ?_) rfl (by kernel_rfl) (by kernel_rfl) (by kernel_rfl) (fun _ _ _ h => h) (Or.inl ⟨by kernel_rfl, ?_⟩) hS ?_
        rotate_left
        · intro w' hSw
          obtain ⟨g0, g1, g2, g3, _⟩ := hSw
          first | (go_simp; done) | (go_simp; with_reducible rfl)
        simp only [List.getElem_toArray, List.getElem_cons_zero, List.getElem_cons_succ, Act.put, List.setIfInBounds_toArray, List.set_cons_zero, List.set_cons_succ]
        refine wpAnyH_take (i := 8) (v := ?_) rfl (by kernel_rfl) (by kernel_rfl) (by kernel_rfl) (fun _ _ _ h => h) (Or.inl ⟨by kernel_rfl, ?_⟩) hS ?_
        rotate_left
        · intro w' hSw
          obtain ⟨g0, g1, g2, g3, _⟩ := hSw
          first | (go_simp; done) | (go_simp; with_reducible rfl)
        simp only [List.getElem_toArray, List.getElem_cons_zero, List.getElem_cons_succ, Act.put, List.setIfInBounds_toArray, List.set_cons_zero, List.set_cons_succ]
        refine wpAnyH_take (i := 9) (v := ?_) rfl (by kernel_rfl) (by kernel_rfl) (by kernel_rfl) (fun _ _ _ h => h) (Or.inl ⟨by kernel_rfl, ?_⟩) hS ?_
        rotate_left
        · intro w' hSw
          obtain ⟨g0, g1, g2, g3, _⟩ := hSw
          first | (go_simp; done) | (go_simp; with_reducible rfl)
        simp only [List.getElem_toArray, List.getElem_cons_zero, List.getElem_cons_succ, Act.put, List.setIfInBounds_toArray, List.set_cons_zero, List.set_cons_succ]
        refine wpAnyH_take (i := 10) (v := ?_) rfl (by kernel_rfl) (by kernel_rfl) (by kernel_rfl) (fun _ _ _ h => h) (Or.inl ⟨by kernel_rfl, ?_⟩) hS ?_
        rotate_left
        · intro w' hSw
          obtain ⟨g0, g1, g2, g3, _⟩ := hSw
          first | (go_simp; done) | (go_simp; with_reducible rfl)
        simp only [List.getElem_toArray, List.getElem_cons_zero, List.getElem_cons_succ, Act.put, List.setIfInBounds_toArray, List.set_cons_zero, List.set_cons_succ]
        refine wpAnyH_take (i := 11) (v := ?_) rfl (by kernel_rfl) (by kernel_rfl) (by kernel_rfl) (fun _ _ _ h => h) (Or.inl ⟨by kernel_rfl, ?_⟩) hS ?_
        rotate_left
        · intro w' hSw
          obtain ⟨g0, g1, g2, g3, _⟩ := hSw
          first | (go_simp; done) | (go_simp; with_reducible rfl)
        simp only [List.getElem_toArray, List.getElem_cons_zero, List.getElem_cons_succ, Act.put, List.setIfInBounds_toArray, List.set_cons_zero, List.set_cons_succ]
        refine wpAnyH_take (i := 12) (v := ?_) rfl (by kernel_rfl) (by kernel_rfl) (by kernel_rfl) (fun _ _ _ h => h) (Or.inl ⟨by kernel_rfl, ?_⟩) hS ?_
        rotate_left
        · intro w' hSw
          obtain ⟨g0, g1, g2, g3, _⟩ := hSw
          first | (go_simp; done) | (go_simp; with_reducible rfl)
        simp only [List.getElem_toArray, List.getElem_cons_zero, List.getElem_cons_succ, Act.put, List.setIfInBounds_toArray, List.set_cons_zero, List.set_cons_succ]
        refine wpAnyH_take (i := 13) (v := ?_) rfl (by kernel_rfl) (by kernel_rfl) (by kernel_rfl) (fun _ _ _ h => h) (Or.inl ⟨by kernel_rfl, ?_⟩) hS ?_
        rotate_left
        · intro w' hSw
          obtain ⟨g0, g1, g2, g3, _⟩ := hSw
          first | (go_simp; done) | (go_simp; with_reducible rfl)
        simp only [List.getElem_toArray, List.getElem_cons_zero, List.getElem_cons_succ, Act.put, List.setIfInBounds_toArray, List.set_cons_zero, List.set_cons_succ]
        refine wpAnyH_take (i := 14) (v := ?_) rfl (by kernel_rfl) (by kernel_rfl) (by kernel_rfl) (fun _ _ _ h => h) (Or.inl ⟨by kernel_rfl, ?_⟩) hS ?_
        rotate_left
        · intro w' hSw
          obtain ⟨g0, g1, g2, g3, _⟩ := hSw
          first | (go_simp; done) | (go_simp; with_reducible rfl)
        simp only [List.getElem_toArray, List.getElem_cons_zero, List.getElem_cons_succ, Act.put, List.setIfInBounds_toArray, List.set_cons_zero, List.set_cons_succ]
        refine wpAnyH_take (i := 15) (v := ?_) rfl (by kernel_rfl) (by kernel_rfl) (by kernel_rfl) (fun _ _ _ h => h) (Or.inl ⟨by kernel_rfl, ?_⟩) hS ?_
        rotate_left
        · intro w' hSw
          obtain ⟨g0, g1, g2, g3, _⟩ := hSw
          first | (go_simp; done) | (go_simp; with_reducible rfl)
        simp only [List.getElem_toArray, List.getElem_cons_zero, List.getElem_cons_succ, Act.put, List.setIfInBounds_toArray, List.set_cons_zero, List.set_cons_succ]
        refine wpAnyH_take (i := 17) (v := ?_) rfl (by kernel_rfl) (by kernel_rfl) (by kernel_rfl) (fun _ _ _ h => h) (Or.inl ⟨by kernel_rfl, ?_⟩) hS ?_
        rotate_left
        · intro w' hSw
          obtain ⟨g0, g1, g2, g3, _⟩ := hSw
          first | (go_simp; done) | (go_simp; with_reducible rfl)
        simp only [List.getElem_toArray, List.getElem_cons_zero, List.getElem_cons_succ, Act.put, List.setIfInBounds_toArray, List.set_cons_zero, List.set_cons_succ]
        refine wpAnyH_take (i := 18) (v := ?_) rfl (by kernel_rfl) (by kernel_rfl) (by kernel_rfl) (fun _ _ _ h => h) (Or.inl ⟨by kernel_rfl, ?_⟩) hS ?_
        rotate_left
        · intro w' hSw
          obtain ⟨g0, g1, g2, g3, _⟩ := hSw
          first | (go_simp; done) | (go_simp; with_reducible rfl)
        simp only [List.getElem_toArray, List.getElem_cons_zero, List.getElem_cons_succ, Act.put, List.setIfInBounds_toArray, List.set_cons_zero, List.set_cons_succ]
        refine wpAnyH_take (i := 19) (v := ?_) rfl (by kernel_rfl) (by kernel_rfl) (by kernel_rfl) (fun _ _ _ h => h) (Or.inl ⟨by kernel_rfl, ?_⟩) hS ?_
        rotate_left
        · intro w' hSw
          obtain ⟨g0, g1, g2, g3, _⟩ := hSw
          first | (go_simp; done) | (go_simp; with_reducible rfl)
        simp only [List.getElem_toArray, List.getElem_cons_zero, List.getElem_cons_succ, Act.put, List.setIfInBounds_toArray, List.set_cons_zero, List.set_cons_succ]
        refine wpAnyH_take (i := 20) (v := ?_) rfl (by kernel_rfl) (by kernel_rfl) (by kernel_rfl) (fun _ _ _ h => h) (Or.inl ⟨by kernel_rfl, ?_⟩) hS ?_
        rotate_left
        · intro w' hSw
          obtain ⟨g0, g1, g2, g3, _⟩ := hSw
          first | (go_simp; done) | (go_simp; with_reducible rfl)
        simp only [List.getElem_toArray, List.getElem_cons_zero, List.getElem_cons_succ, Act.put, List.setIfInBounds_toArray, List.set_cons_zero, List.set_cons_succ]
        refine wpAnyH_take (i := 21) (v := ?_) rfl (by kernel_rfl) (by kernel_rfl) (by kernel_rfl) (fun _ _ _ h => h) (Or.inl ⟨by kernel_rfl, ?_⟩) hS ?_
        rotate_left
        · intro w' hSw
          obtain ⟨g0, g1, g2, g3, _⟩ := hSw
          first | (go_simp; done) | (go_simp; with_reducible rfl)
        simp only [List.getElem_toArray, List.getElem_cons_zero, List.getElem_cons_succ, Act.put, List.setIfInBounds_toArray, List.set_cons_zero, List.set_cons_succ]
        refine wpAnyH_ready (rs := [16]) (by kernel_rfl) (List.cons_ne_nil _ _) ?_
        refine AllReadyH.cons rfl (fun K hK => ?_) AllReadyH.nil
        go_simp
        have HE := Lib.hid (row_first wr 44 2)
        have hF := grownBy_trans HC.out.g HE.out.2
        refine hK.out _ _ (⟨(hF).cell c0 (by simp), (hF).cell c1 (by simp), (hF).cell c2 (by simp), (hF).cell c3 (by simp), hF⟩) (fun hS => ?_)
        generalize (wr.alloc (.cells #[] 44)).drew = w5 at *
        clear hF
        clear hK
        try simp only [List.getElem_toArray, List.getElem_cons_zero, List.getElem_cons_succ, Act.put, List.setIfInBounds_toArray, List.set_cons_zero, List.set_cons_succ]
        refine wpAnyH_ready (rs := [22]) (by kernel_rfl) (List.cons_ne_nil _ _) ?_
        refine AllReadyH.cons rfl (fun K hK => ?_) AllReadyH.nil
        refine step_append_src (by rfl) _ _ _ (by rfl) wr.heap.size 44 i0 _ 2 16 Try.underlying31 hi hz0 hz1 hz2 rfl (by decide) _ 0 [] (by rfl) HE.out.1 _ xl.length (rgsV xl) (by rfl) ((src_rg HX.out).kept HE.out.2) (rgsV_one xl) (by unfold maxLen; omega) (by omega) HE.out.2.size ?_
        intro v6 w6 hown6 hgr6
        rw [Nat.zero_add, List.nil_append] at hown6
        obtain ⟨ao, cc6, rfl⟩ := own_slice hown6
        have HF := Lib.hid (And.intro hown6 (grow_own HE.out.2 hgr6 HE.out.1 (Nat.le_refl _)))
        clear hown6 hgr6 HE
        have hF := grownBy_trans HC.out.g HF.out.2
        refine hK.out _ _ (⟨(hF).cell c0 (by simp), (hF).cell c1 (by simp), (hF).cell c2 (by simp), (hF).cell c3 (by simp), hF⟩) (fun hS => ?_)
        clear hF
        clear hK
        try simp only [List.getElem_toArray, List.getElem_cons_zero, List.getElem_cons_succ, Act.put, List.setIfInBounds_toArray, List.set_cons_zero, List.set_cons_succ]
        refine wpAnyH_take (i := 23) (v := ?_) rfl (by kernel_rfl) (by kernel_rfl) (by kernel_rfl) (fun _ _ _ h => h) (Or.inl ⟨by kernel_rfl, ?_⟩) hS ?_
        rotate_left
        · intro w' hSw
          obtain ⟨g0, g1, g2, g3, _⟩ := hSw
          first | (go_simp; done) | (go_simp; with_reducible rfl)
        simp only [List.getElem_toArray, List.getElem_cons_zero, List.getElem_cons_succ, Act.put, List.setIfInBounds_toArray, List.set_cons_zero, List.set_cons_succ]
        refine wpAnyH_ready (rs := [24]) (by kernel_rfl) (List.cons_ne_nil _ _) ?_
        refine AllReadyH.cons rfl (fun K hK => ?_) AllReadyH.nil
        go_simp
        have HG := Lib.hid (And.intro (grownBy_trans HF.out.2 (World.grownBy_alloc w6 (.cells #[.int .i64 xk, .int .i64 xf, .int .i64 xn, .slice ao xl.length cc6] 33) none)) (And.intro (own_kept HF.out.1 (World.grownBy_alloc w6 (.cells #[.int .i64 xk, .int .i64 xf, .int .i64 xn, .slice ao xl.length cc6] 33) none)) (And.intro (World.alloc_heap_new w6 (.cells #[.int .i64 xk, .int .i64 xf, .int .i64 xn, .slice ao xl.length cc6] 33)) (show (w6.alloc (.cells #[.int .i64 xk, .int .i64 xf, .int .i64 xn, .slice ao xl.length cc6] 33)).heap.size = w6.heap.size + 1 by simp))))
        have hF := grownBy_trans HC.out.g HG.out.1
        refine hK.out _ _ (⟨(hF).cell c0 (by simp), (hF).cell c1 (by simp), (hF).cell c2 (by simp), (hF).cell c3 (by simp), hF⟩) (fun hS => ?_)
        generalize w6.alloc (.cells #[.int .i64 xk, .int .i64 xf, .int .i64 xn, .slice ao xl.length cc6] 33) = w7 at *
        generalize w6.heap.size = q6 at *
        clear hF
        clear hK
        try simp only [List.getElem_toArray, List.getElem_cons_zero, List.getElem_cons_succ, Act.put, List.setIfInBounds_toArray, List.set_cons_zero, List.set_cons_succ]
        refine wpAnyH_ready (rs := [25]) (by kernel_rfl) (List.cons_ne_nil _ _) ?_
        refine AllReadyH.cons rfl (fun K hK => ?_) AllReadyH.nil
        have HO := Lib.hid (own_kept HC.out.row HG.out.1)
        refine step_append_lies _ (by rfl) _ _ _ (by rfl) w.heap.size 33 i1 _ 4 48 Try.underlying24 ki kz0 kz1 kz2 rfl (by decide) _ _ _ (by rfl) HO.out ⟨q6, 0, none⟩ 1 1 [.int .i64 xk, .int .i64 xf, .int .i64 xn, .slice ao xl.length cc6] (by rfl) (by rfl) ?c1 ?c2 (by decide) ?c3 ?c4 ?c5 (q6 + 1) HG.out.2.2.2 ?_
        case c1 => exact World.news_of_block HG.out.2.2.1
        case c2 => intro u hu; simp only [List.mem_cons, List.not_mem_nil, or_false] at hu; rcases hu with rfl | rfl | rfl | rfl <;> rfl
        case c3 => have := HL.out; unfold maxLen; omega
        case c4 => have := HL.out; omega
        case c5 => exact (grownBy_trans HC.out.g HG.out.1).size
        intro g8 cc8 w8 hr hg hat hlt
        have HN := Lib.hid (HC.out.next (x := ⟨xk, xf, xn, ao, cc6, xl⟩) HG.out.1 (own_rowOk HG.out.2.1) (own_lt HG.out.2.1) hr hg hat HG.out.2.2.2)
        clear hr hg hat hlt HO
        have hF := HN.out.g
        refine hK.out _ _ (⟨(hF).cell c0 (by simp), (hF).cell c1 (by simp), (hF).cell c2 (by simp), (hF).cell c3 (by simp), hF⟩) (fun hS => ?_)
        clear hF
        clear hK
        try simp only [List.getElem_toArray, List.getElem_cons_zero, List.getElem_cons_succ, Act.put, List.setIfInBounds_toArray, List.set_cons_zero, List.set_cons_succ]
        refine wpAnyH_take (i := 26) (v := ?_) rfl (by kernel_rfl) (by kernel_rfl) (by kernel_rfl) (fun _ _ _ h => h) (Or.inl ⟨by kernel_rfl, ?_⟩) hS ?_
        rotate_left
        · intro w' hSw
          obtain ⟨g0, g1, g2, g3, _⟩ := hSw
          first | (go_simp; done) | (go_simp; with_reducible rfl)
        simp only [List.getElem_toArray, List.getElem_cons_zero, List.getElem_cons_succ, Act.put, List.setIfInBounds_toArray, List.set_cons_zero, List.set_cons_succ]
        refine wpAnyH_done (by kernel_rfl) ?_ _
        go_wp2_with fail
        go_roundw
        case rel => exact ⟨j + 1, some ⟨g8, 0, none⟩, cc8, us ++ [(⟨xk, xf, xn, ao, cc6, xl⟩ : Nt)], hlt, by go_num, by simp, HNX.out _ rfl, HN.out⟩
        case measure => simp [intOf]; omega
    · obtain rfl : j = l.length := by omega
      go_wp2_with fail
      go_ret
      exact ⟨_, _, _, rfl, by rw [HU.out, List.take_length], HC.out⟩

end Go.Proofs.Ytedhemllgpbheaa

