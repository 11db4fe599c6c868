/- Vh -/
import Derived.Test.YtedhemllgpbheaaQ39
import Derived.Test.YtedhemllgpbheaaQ41
import Derived.Test.YtedhemllgpbheaaQ42
import Derived.LoopTactic
namespace Go.Proofs.Ytedhemllgpbheaa
open Go.RowKit
open P7 (Pk PkAt pksV PcsP prefL)

theorem step_load_row {P : Program} {ops : Array Oper} {o : Oper} {a : Act} {w : World} {K : Act → World → Prop} {Q : Exit → Act → World → Prop} {E : Prop} (hgd : o.guard = none) (ty : TypeId) (x : Operand) (ho : o.op = .load ty x)
    (g : Nat) (hx : a.eval x = .pointer (some ⟨g, 0, none⟩)) (t : TypeId) (cs : Array Value) (fr : Nat × Nat) (d : TypeDesc) (hg : w.heap[g]? = some (.cells cs t fr))
    (hu : P.underlying ty = some d) (hd : (match d with | .struct _ | .array _ _ => true | _ => false) = true) (hi : (P.info? ty).map (·.size) = some cs.size)
    (h : K (a.put o.dst (.agg cs)) w) : if Region.wanted o (yielded ops a.tmps) = true then Oper.wp P o a w K Q else E := by
  rw [if_pos (by simp [Region.wanted, hgd])]
  exact wp_load_row ty x ho g hx t cs fr d hg hu hd hi h
theorem step_store_row {P : Program} {ops : Array Oper} {o : Oper} {a : Act} {w : World} {K : Act → World → Prop} {Q : Exit → Act → World → Prop} {E : Prop} (hgd : o.guard = none) (ty : TypeId) (x y : Operand) (ho : o.op = .store ty x y)
    (g : Nat) (cells : Array Value) (hx : a.eval x = .pointer (some ⟨g, 0, none⟩)) (hy : a.eval y = .agg cells)
    (t : TypeId) (old : Array Value) (hg : w.heap[g]? = some (.cells old t (0, 0))) (hi : (P.info? ty).map (·.size) = some cells.size)
    (hold : old.size = cells.size) (h1 : cells.all (·.oneCell') = true)
    (h : K (a.put o.dst undef) (w.setRow g cells)) : if Region.wanted o (yielded ops a.tmps) = true then Oper.wp P o a w K Q else E := by
  rw [if_pos (by simp [Region.wanted, hgd])]
  exact wp_store_row ty x y ho g cells hx hy t old hg hi hold h1 h
/-- A drawn world stands in a box beside the reader. -/
structure Se (w : World) (r C : Nat) (V : Wv) (W : World) : Prop where
  lr : r < w.heap.size
  lc : w.heap.size ≤ C
  g : w.grownBy W (some r)
  rd : RdOk W r
  b : Bx W C 53 V.c
  l : V.At W w.heap.size [C, r]
  le : V.le 400 400 400
theorem Se.step {w W W' : World} {r C : Nat} {V : Wv} (h : Se w r C V W) (hg : W.grownBy W' (some r)) (hr : RdOk W' r) : Se w r C V W' :=
  ⟨h.lr, h.lc, grownBy_trans h.g hg, hr, h.b.kept hg (fun e => by have := h.lc; have := h.lr; cases e; omega), LwAt.of h.l hg.size (fun k hk hx => hg.block k hk (fun e => hx (by cases e; simp))), h.le⟩
theorem Se.own {w W W' : World} {r C : Nat} {V : Wv} (h : Se w r C V W) (hg : W.grownBy W' none) : Se w r C V W' := h.step (gE hg) (h.rd.kept hg (by simp) (by simp))
theorem setRow_grown (W : World) (C : Nat) (ys : Array Value) : W.grownBy (W.setRow C ys) (some C) := ⟨rfl, rfl, rfl, by rw [setRow_size]; exact Nat.le_refl _, fun k _ hk => setRow_other W C k ys (fun e => hk (by rw [e]))⟩
theorem Se.next {w W W2 : World} {r C : Nat} {V V2 : Wv} (h : Se w r C V W) (ha : V2.At W2 W.heap.size [C, r]) (hg : W.grownBy W2 none) (hle : V2.le 400 400 400) : Se w r C V2 (W2.setRow C V2.c) := by
  have k := h.own hg
  have h1 := h.lr
  have h2 := h.lc
  refine ⟨h1, h2, ?_, k.rd.kept (setRow_grown W2 C V2.c) (by simp; omega) (fun j e => by cases e; omega), setRow_heap W2 C _ V2.c 53 (0, 0) k.b, (LwAt.base ha h.g.size).of (by rw [setRow_size]; exact Nat.le_refl _) fun j _ hx => setRow_other W2 C j V2.c (fun e => hx (by simp [e])), hle⟩
  exact ⟨k.g.os, k.g.tape, k.g.output, by rw [setRow_size]; exact k.g.size, fun j hj hx => (setRow_other W2 C j V2.c (by omega)).trans (k.g.block j hj hx)⟩
theorem step_c (V : Wv) (r : Nat) (w : World) (h : RdOk w r) (hle : V.le 400 400 400) : Calls Try.prog 24 #[.pointer (some ⟨r, 0, none⟩), .agg V.c] w (StPost w r) := step_V V r w h hle
def SeRel (w : World) (r C : Nat) (i : Value) (W : World) : Prop := ∃ (q : Int) (V : Wv), i = .int .i64 q ∧ 0 ≤ q ∧ q ≤ 29 ∧ Se w r C V W
def SeenPost (w : World) (r : Nat) (e : Ending) (w' : World) : Prop :=
  ∃ (m y : Int) (V : Wv), e = .returned (.tuple #[.int .i64 m, .int .i64 y, .slice V.na V.nl.length V.nc]) ∧ w.grownBy w' (some r) ∧ RdOk w' r ∧ V.At w' w.heap.size [r] ∧ V.le 400 400 400

set_option maxRecDepth 100000 in
set_option maxHeartbeats 8000000 in
theorem seen_draw (r : Nat) (w : World) (h : RdOk w r) : Calls Try.prog 16 #[.pointer (some ⟨r, 0, none⟩)] w (SeenPost w r) := by
  have HH := Lib.hid h
  have hlt := h.lt
  clear h
  go_enter Try.func16, Try.ntmps16
  go_wp2_with fail
  refine (below_any _ _ _ HH.out (by omega)).mono ?_
  rintro e w1 ⟨a, a0, a1, rfl, hg, hr⟩
  rw [if_neg (by omega)] at a1
  have s1 : IntKind.i64.wrap (3 + a) = 3 + a := IntWalk.i64_in _ (by omega)
  have H1 := Lib.hid (And.intro hg hr)
  clear hg hr
  go_wp2_with fail
  refine (below_any _ _ _ H1.out.2 (by omega)).mono ?_
  rintro e w2 ⟨b, b0, b1, rfl, hg, hr⟩
  rw [if_neg (by omega)] at b1
  have s2 : IntKind.i64.wrap (2 + b) = 2 + b := IntWalk.i64_in _ (by omega)
  have H2 := Lib.hid (And.intro (grownBy_trans H1.out.1 hg) hr)
  clear hg hr H1
  go_wp2_with fail
  refine (below_any _ _ _ H2.out.2 (by omega)).mono ?_
  rintro e w3 ⟨c, c0, c1, rfl, hg, hr⟩
  rw [if_neg (by omega)] at c1
  have s3 : IntKind.i64.wrap (20 + c) = 20 + c := IntWalk.i64_in _ (by omega)
  have H3 := Lib.hid (And.intro (grownBy_trans H2.out.1 hg) hr)
  clear hg hr H2
  go_wp2_with fail
  refine (wn_newS (20 + c) (3 + a) (2 + b) w3).mono ?_
  rintro e w4 ⟨rfl, hg⟩
  obtain ⟨T, R0, R1, R2, R3, R4, R5, R6, bb, hb⟩ := wn_form (20 + c) (3 + a) (2 + b)
  rw [hb]
  clear hb
  have H4 := Lib.hid (And.intro (grownBy_trans H3.out.1 (gE hg)) (H3.out.2.kept hg (by simp) (by simp)))
  clear hg H3
  go_upto_region 4 with fail
  have HS0 := Lib.hid (show Se w r w4.heap.size ⟨T, R0, R1, R2, R3, R4, R5, R6, 0, 0, none, 0, [], none, 0, [], none, 0, [], none, 0, [], none, 0, []⟩ (w4.alloc (.cells #[.int .i64 T, .int .i64 R0, .int .i64 R1, .int .i64 R2, .int .i64 R3, .int .i64 R4, .int .i64 R5, .int .i64 R6, .int .i64 0, .int .i64 0, .slice none 0 0, .slice none 0 0, .slice none 0 0, .slice none 0 0, .slice none 0 0] 53)) from ⟨hlt, H4.out.1.size, grownBy_trans H4.out.1 (World.grownBy_alloc _ _ _), H4.out.2.alloc _, Bx.new _ _ _, LwAt.nil _ _ _ (by intro q hq; have := H4.out.2.lt; simp only [List.mem_cons, List.not_mem_nil, or_false] at hq; rcases hq with rfl | rfl <;> simp <;> omega), by simp [Wv.le]⟩)
  generalize w4.alloc (.cells #[.int .i64 T, .int .i64 R0, .int .i64 R1, .int .i64 R2, .int .i64 R3, .int .i64 R4, .int .i64 R5, .int .i64 R6, .int .i64 0, .int .i64 0, .slice none 0 0, .slice none 0 0, .slice none 0 0, .slice none 0 0, .slice none 0 0] 53) = w5 at *
  generalize w4.heap.size = C at *
  obtain ⟨V, hV⟩ : ∃ V, Se w r C V w5 := ⟨_, HS0.out⟩
  have HS := Lib.hid hV
  clear hV HS0 H4 s1 s2 s3
  obtain ⟨m, hm⟩ : ∃ m, m = 3 + a := ⟨_, rfl⟩
  try rw [← hm]
  obtain ⟨y, hy⟩ : ∃ y, y = 2 + b := ⟨_, rfl⟩
  try rw [← hy]
  clear hm hy
  go_wp2_with fail
  refine (below_any _ _ _ HS.out.rd (by omega)).mono ?_
  rintro e w6 ⟨d, d0, d1, rfl, hg, hr⟩
  rw [if_neg (by omega)] at d1
  have HS6 := Lib.hid (HS.out.step hg hr)
  clear hg hr HS
  go_wp2_with fail
  go_loopw [9] (fun i W => SeRel w r C i W) (fun i _ => (intOf i).toNat)
  case atStart => exact ⟨d, V, rfl, by omega, by omega, HS6.out⟩
  case round =>
    obtain ⟨q, V, rfl, hq0, hq1, hs⟩ := hrel
    have HR := Lib.hid hs
    clear hs HS6
    by_cases hq : 0 < q
    · go_upto_region 7 with fail
      refine wp_region_held_drew (S := fun w' => True) (by kernel_rfl) (trivial) (fun hS => ?_)
      have HD0 := Lib.hid (HR.out.own grownBy_drew)
      generalize wr.drew = Wd at *
      refine' (fun (tail : ∀ (sk sat : Int) (sd : Bool) (W : World), Se w r C V W → (_ : Int → Int → Bool → World → Prop) sk sat sd W) => ?main) ?tl
      case main =>
        refine wpAnyH_take (i := 1) (v := ?_) rfl (by kernel_rfl) (by kernel_rfl) (by kernel_rfl) (fun _ _ _ h => h) (Or.inl ⟨by kernel_rfl, ?_⟩) hS ?_
        rotate_left
        · intro w' hSw
          obtain _ := hSw
          first | (go_simp; done) | (go_simp; with_reducible rfl)
        simp only [List.getElem_toArray, List.getElem_cons_zero, List.getElem_cons_succ, Act.put, List.setIfInBounds_toArray, List.set_cons_zero, List.set_cons_succ]
        refine wpAnyH_ready (rs := [0, 2]) (by kernel_rfl) (List.cons_ne_nil _ _) ?_
        refine AllReadyH.cons rfl (fun K hK => ?_) ?_
        · refine step_load_row rfl 53 _ (by rfl) C rfl 53 V.c (0, 0) _ HD0.out.b Try.underlying53 rfl info_w ?_
          refine hK.out _ _ trivial (fun _ => ?_)
          clear hK
          try simp only [List.getElem_toArray, List.getElem_cons_zero, Act.put, List.setIfInBounds_toArray, List.set_cons_zero, List.set_cons_succ]
          refine wpAnyH_ready (rs := [2]) (by kernel_rfl) (List.cons_ne_nil _ _) ?_
          refine AllReadyH.cons rfl (fun K hK => ?_) AllReadyH.nil
          refine step_load_row rfl 53 _ (by rfl) C rfl 53 V.c (0, 0) _ HD0.out.b Try.underlying53 rfl info_w ?_
          refine hK.out _ _ trivial (fun _ => ?_)
          clear hK
          try simp only [List.getElem_toArray, List.getElem_cons_zero, List.getElem_cons_succ, Act.put, List.setIfInBounds_toArray, List.set_cons_zero, List.set_cons_succ]
          refine wpAnyH_ready (rs := [3]) (by kernel_rfl) (List.cons_ne_nil _ _) ?_
          refine AllReadyH.cons rfl (fun K hK => ?_) AllReadyH.nil
          go_simp
          go_at_call 24
          refine (step_c V r _ HD0.out.rd HD0.out.le).mono ?_
          rintro e u3 ⟨sk, sat, sd, rfl, hg, hr⟩
          have H3 := Lib.hid (HD0.out.step hg hr)
          clear hg hr
          refine hK.out _ _ trivial (fun _ => ?_)
          clear hK
          try simp only [List.getElem_toArray, List.getElem_cons_zero, List.getElem_cons_succ, Act.put, List.setIfInBounds_toArray, List.set_cons_zero, List.set_cons_succ]
          exact tail sk sat sd u3 H3.out
        refine AllReadyH.cons rfl (fun K hK => ?_) ?_
        · refine step_load_row rfl 53 _ (by rfl) C rfl 53 V.c (0, 0) _ HD0.out.b Try.underlying53 rfl info_w ?_
          refine hK.out _ _ trivial (fun _ => ?_)
          clear hK
          try simp only [List.getElem_toArray, List.getElem_cons_zero, List.getElem_cons_succ, Act.put, List.setIfInBounds_toArray, List.set_cons_zero, List.set_cons_succ]
          refine wpAnyH_ready (rs := [0, 3]) (by kernel_rfl) (List.cons_ne_nil _ _) ?_
          refine AllReadyH.cons rfl (fun K hK => ?_) ?_
          · refine step_load_row rfl 53 _ (by rfl) C rfl 53 V.c (0, 0) _ HD0.out.b Try.underlying53 rfl info_w ?_
            refine hK.out _ _ trivial (fun _ => ?_)
            clear hK
            try simp only [List.getElem_toArray, List.getElem_cons_zero, Act.put, List.setIfInBounds_toArray, List.set_cons_zero, List.set_cons_succ]
            refine wpAnyH_ready (rs := [3]) (by kernel_rfl) (List.cons_ne_nil _ _) ?_
            refine AllReadyH.cons rfl (fun K hK => ?_) AllReadyH.nil
            go_simp
            go_at_call 24
            refine (step_c V r _ HD0.out.rd HD0.out.le).mono ?_
            rintro e u3 ⟨sk, sat, sd, rfl, hg, hr⟩
            have H3 := Lib.hid (HD0.out.step hg hr)
            clear hg hr
            refine hK.out _ _ trivial (fun _ => ?_)
            clear hK
            try simp only [List.getElem_toArray, List.getElem_cons_zero, List.getElem_cons_succ, Act.put, List.setIfInBounds_toArray, List.set_cons_zero, List.set_cons_succ]
            exact tail sk sat sd u3 H3.out
          refine AllReadyH.cons rfl (fun K hK => ?_) ?_
          · go_simp
            go_at_call 24
            refine (step_c V r _ HD0.out.rd HD0.out.le).mono ?_
            rintro e u3 ⟨sk, sat, sd, rfl, hg, hr⟩
            have H3 := Lib.hid (HD0.out.step hg hr)
            clear hg hr
            refine hK.out _ _ trivial (fun _ => ?_)
            clear hK
            try simp only [List.getElem_toArray, List.getElem_cons_zero, List.getElem_cons_succ, Act.put, List.setIfInBounds_toArray, List.set_cons_zero, List.set_cons_succ]
            refine wpAnyH_ready (rs := [0]) (by kernel_rfl) (List.cons_ne_nil _ _) ?_
            refine AllReadyH.cons rfl (fun K hK => ?_) AllReadyH.nil
            refine step_load_row rfl 53 _ (by rfl) C rfl 53 V.c (0, 0) _ H3.out.b Try.underlying53 rfl info_w ?_
            refine hK.out _ _ trivial (fun _ => ?_)
            clear hK
            try simp only [List.getElem_toArray, List.getElem_cons_zero, Act.put, List.setIfInBounds_toArray, List.set_cons_zero, List.set_cons_succ]
            exact tail sk sat sd u3 H3.out
          exact AllReadyH.nil
        exact AllReadyH.nil
      case tl =>
        intro sk sat sd u3 hs
        have H3 := Lib.hid hs
        clear hs
        have hS : True := trivial
        refine wpAnyH_ready (rs := [4]) (by kernel_rfl) (List.cons_ne_nil _ _) ?_
        refine AllReadyH.cons rfl (fun K hK => ?_) AllReadyH.nil
        go_simp
        go_at_call 23
        refine (wdo_V V sk sat sd _ _ _ H3.out.l H3.out.le).mono ?_
        rintro e u4 ⟨V2, k4, rfl, ha, hg, hle⟩
        have H4 := Lib.hid (And.intro (H3.out.own hg) (H3.out.next ha hg hle))
        clear ha hg hle
        refine hK.out _ _ trivial (fun _ => ?_)
        clear hK
        try simp only [List.getElem_toArray, List.getElem_cons_zero, List.getElem_cons_succ, Act.put, List.setIfInBounds_toArray, List.set_cons_zero, List.set_cons_succ]
        refine wpAnyH_take (i := 5) (v := ?_) rfl (by kernel_rfl) (by kernel_rfl) (by kernel_rfl) (fun _ _ _ h => h) (Or.inl ⟨by kernel_rfl, ?_⟩) hS ?_
        rotate_left
        · intro w' hSw
          obtain _ := hSw
          first | (go_simp; done) | (go_simp; with_reducible rfl)
        simp only [List.getElem_toArray, List.getElem_cons_zero, List.getElem_cons_succ, Act.put, List.setIfInBounds_toArray, List.set_cons_zero, List.set_cons_succ]
        refine wpAnyH_take (i := 6) (v := ?_) rfl (by kernel_rfl) (by kernel_rfl) (by kernel_rfl) (fun _ _ _ h => h) (Or.inl ⟨by kernel_rfl, ?_⟩) hS ?_
        rotate_left
        · intro w' hSw
          obtain _ := hSw
          first | (go_simp; done) | (go_simp; with_reducible rfl)
        simp only [List.getElem_toArray, List.getElem_cons_zero, List.getElem_cons_succ, Act.put, List.setIfInBounds_toArray, List.set_cons_zero, List.set_cons_succ]
        refine wpAnyH_take (i := 7) (v := ?_) rfl (by kernel_rfl) (by kernel_rfl) (by kernel_rfl) (fun _ _ _ h => h) (Or.inl ⟨by kernel_rfl, ?_⟩) hS ?_
        rotate_left
        · intro w' hSw
          obtain _ := hSw
          first | (go_simp; done) | (go_simp; with_reducible rfl)
        simp only [List.getElem_toArray, List.getElem_cons_zero, List.getElem_cons_succ, Act.put, List.setIfInBounds_toArray, List.set_cons_zero, List.set_cons_succ]
        refine wpAnyH_ready (rs := [8]) (by kernel_rfl) (List.cons_ne_nil _ _) ?_
        refine AllReadyH.cons rfl (fun K hK => ?_) AllReadyH.nil
        refine step_store_row rfl 53 _ _ (by rfl) C V2.c rfl rfl 53 _ H4.out.1.b info_w rfl (by simp [Wv.c, Value.oneCell']) ?_
        have H8 := Lib.hid H4.out.2
        clear H4
        refine hK.out _ _ trivial (fun _ => ?_)
        generalize u4.setRow C V2.c = u8 at *
        clear hK
        try simp only [List.getElem_toArray, List.getElem_cons_zero, List.getElem_cons_succ, Act.put]
        refine wpAnyH_done (by kernel_rfl) ?_ _
        have hw : IntKind.i64.wrap (q - 1) = q - 1 := IntWalk.i64_in _ (by omega)
        go_wp2_with fail
        go_roundw
        case rel => exact ⟨q - 1, V2, rfl, by omega, by omega, H8.out⟩
        case measure => simp [intOf]; omega
    · have hq2 : ¬ 0 < q := hq
      go_upto_region 8 with fail
      refine wp_region_held_drew (S := fun w' => w'.cell? ⟨C, 14, none⟩ = some (.slice V.na V.nl.length V.nc)) (by kernel_rfl) ((HR.out.own grownBy_drew).b.c 14 rfl) (fun hS => ?_)
      refine wpAnyH_take (i := 0) (v := ?_) rfl (by kernel_rfl) (by kernel_rfl) (by kernel_rfl) (fun _ _ _ h => h) (Or.inl ⟨by kernel_rfl, ?_⟩) hS ?_
      rotate_left
      · intro w' hSw
        obtain g0 := hSw
        first | (go_simp; done) | (go_simp; with_reducible rfl)
      simp only [List.getElem_toArray, List.getElem_cons_zero, Act.put, List.setIfInBounds_toArray, List.set_cons_zero, List.set_cons_succ]
      refine wpAnyH_take (i := 1) (v := ?_) rfl (by kernel_rfl) (by kernel_rfl) (by kernel_rfl) (fun _ _ _ h => h) (Or.inl ⟨by kernel_rfl, ?_⟩) hS ?_
      rotate_left
      · intro w' hSw
        obtain g0 := hSw
        first | (go_simp; done) | (go_simp; with_reducible rfl)
      simp only [List.getElem_toArray, List.getElem_cons_zero, List.getElem_cons_succ, Act.put, List.setIfInBounds_toArray, List.set_cons_zero, List.set_cons_succ]
      refine wpAnyH_take (i := 2) (v := ?_) rfl (by kernel_rfl) (by kernel_rfl) (by kernel_rfl) (fun _ _ _ h => h) (Or.inl ⟨by kernel_rfl, ?_⟩) hS ?_
      rotate_left
      · intro w' hSw
        obtain g0 := hSw
        first | (go_simp; done) | (go_simp; with_reducible rfl)
      simp only [List.getElem_toArray, List.getElem_cons_zero, List.getElem_cons_succ, Act.put, List.setIfInBounds_toArray, List.set_cons_zero, List.set_cons_succ]
      refine wpAnyH_take (i := 3) (v := ?_) rfl (by kernel_rfl) (by kernel_rfl) (by kernel_rfl) (fun _ _ _ h => h) (Or.inl ⟨by kernel_rfl, ?_⟩) hS ?_
      rotate_left
      · intro w' hSw
        obtain g0 := hSw
        first | (go_simp; done) | (go_simp; with_reducible rfl)
      simp only [List.getElem_toArray, List.getElem_cons_zero, List.getElem_cons_succ, Act.put, List.setIfInBounds_toArray, List.set_cons_zero, List.set_cons_succ]
      refine wpAnyH_take (i := 4) (v := ?_) rfl (by kernel_rfl) (by kernel_rfl) (by kernel_rfl) (fun _ _ _ h => h) (Or.inl ⟨by kernel_rfl, ?_⟩) hS ?_
      rotate_left
      · intro w' hSw
        obtain g0 := hSw
        first | (go_simp; done) | (go_simp; with_reducible rfl)
      simp only [List.getElem_toArray, List.getElem_cons_zero, List.getElem_cons_succ, Act.put, List.setIfInBounds_toArray, List.set_cons_zero, List.set_cons_succ]
      refine wpAnyH_take (i := 5) (v := ?_) rfl (by kernel_rfl) (by kernel_rfl) (by kernel_rfl) (fun _ _ _ h => h) (Or.inl ⟨by kernel_rfl, ?_⟩) hS ?_
      rotate_left
      · intro w' hSw
        obtain g0 := hSw
        first | (go_simp; done) | (go_simp; with_reducible rfl)
      simp only [List.getElem_toArray, List.getElem_cons_zero, List.getElem_cons_succ, Act.put, List.setIfInBounds_toArray, List.set_cons_zero, List.set_cons_succ]
      refine wpAnyH_take (i := 6) (v := ?_) rfl (by kernel_rfl) (by kernel_rfl) (by kernel_rfl) (fun _ _ _ h => h) (Or.inl ⟨by kernel_rfl, ?_⟩) hS ?_
      rotate_left
      · intro w' hSw
        obtain g0 := hSw
        first | (go_simp; done) | (go_simp; with_reducible rfl)
      simp only [List.getElem_toArray, List.getElem_cons_zero, List.getElem_cons_succ, Act.put, List.setIfInBounds_toArray, List.set_cons_zero, List.set_cons_succ]
      refine wpAnyH_done (by kernel_rfl) ?_ _
      skip
      go_wp2_with fail
      refine bodyPost_ret (v := .tuple #[.int .i64 m, .int .i64 y, .slice V.na V.nl.length V.nc]) (by simp [results, Try.results16]) rfl ?_
      exact ⟨_, _, V, rfl, (HR.out.own grownBy_drew).g, (HR.out.own grownBy_drew).rd, LwAt.drop (C := C) (HR.out.own grownBy_drew).l, HR.out.le⟩

end Go.Proofs.Ytedhemllgpbheaa

