/- Fragments as keys of a map. -/
import Derived.Test.YtaigdimicnlfdaaFrO
import Derived.Maps.OwnSet
import Derived.Maps.AppendAt
import Derived.DeepKeys4
namespace Go.Proofs.Ytaigdimicnlfdaa
open Go.RowKit Go.Maps

def keyF (x : Fg) : Lit := .string (keyBytes [.int .i64 x.f, .bool x.m, .string x.d])
abbrev fgA (x : Fg) : Value := .agg #[.int .i64 x.f, .bool x.m, .string ⟨x.d.toArray⟩]

theorem wf_fr {v : Int} (h0 : -9223372036854775808 ≤ v) (h1 : v ≤ 9223372036854775807) : (Lit.int .i64 v).wf = true := by
  simp [Lit.wf, IntKind.min, IntKind.max, IntKind.signed, IntKind.bits]; omega

theorem key_law : WideMaps.KeyLaw Try.prog 30 := deep_law_laid (m := 5) (by kernel_rfl) (by omega) (by decide +kernel) (by kernel_rfl) (by kernel_rfl)

theorem keyed : Keyed Try.prog 30 := Keyed.of_law key_law

theorem key_at (x : Fg) (hf : 0 ≤ x.f ∧ x.f ≤ 600) (hd : x.d.length ≤ 300) : keyOf Try.prog 30 (fgA x) = some (keyF x) := by
  have hk : Try.prog.keyType 30 = true := by kernel_rfl
  have hc : Try.prog.cellsOf 30 = 3 := by kernel_rfl
  have c1 : Try.prog.cellsOf 2 = 1 := by kernel_rfl
  have c2 : Try.prog.cellsOf 4 = 1 := by kernel_rfl
  have c3 : Try.prog.cellsOf 9 = 1 := by kernel_rfl
  have h0 : 0 < Try.prog.types.size := by decide +kernel
  obtain ⟨n, hn⟩ : ∃ n, Try.prog.types.size = n + 1 := ⟨Try.prog.types.size - 1, by omega⟩
  have hw : (Lit.int .i64 x.f).wf = true := wf_fr (by omega) (by omega)
  have hm : x.d.length ≤ maxLen := by unfold maxLen; omega
  unfold keyOf keyF
  simp only [Try.underlying30, hk, Value.formed, hc, hn, Bool.true_and]
  simp [Program.keyLits, Try.underlying30, Try.underlying2, Try.underlying4, Try.underlying9, hc, c1, c2, c3, hw, Value.cells]
  have hz : ({ data := x.d.toArray } : ByteArray).size = x.d.length := by simp [ByteArray.size]
  rw [hz, if_pos hm]
  rfl

theorem key_inj {x y : Fg} (hx : 0 ≤ x.f ∧ x.f ≤ 600) (hxd : x.d.length ≤ 300) (hy : 0 ≤ y.f ∧ y.f ≤ 600) (hyd : y.d.length ≤ 300) (h : keyF x = keyF y) : x = y := by
  have h1 := key_at x hx hxd
  have h2 := key_at y hy hyd
  rw [h] at h1
  have e := keyed.inj h1 h2
  simp only [fgA, Value.agg.injEq, Array.mk.injEq, List.cons.injEq, Value.int.injEq, Value.bool.injEq, Value.string.injEq, ByteArray.mk.injEq, true_and, and_true] at e
  obtain ⟨e1, e2, e3⟩ := e
  cases x; cases y
  simp only at e1 e2 e3
  subst e1 e2
  congr

deriving instance DecidableEq for Fg

/-- Of those that are alike one, in the order of the first. -/
def dfL (l : List Fg) : List Fg := l.foldl (fun acc x => if x ∈ acc then acc else acc ++ [x]) []

theorem df_next (l : List Fg) (j : Nat) (h : j < l.length) : dfL (l.take (j + 1)) = if l[j] ∈ dfL (l.take j) then dfL (l.take j) else dfL (l.take j) ++ [l[j]] := by
  unfold dfL
  rw [List.take_succ_eq_append_getElem h, List.foldl_append]
  rfl

theorem df_mem_acc : ∀ (l acc : List Fg) (x : Fg), x ∈ l.foldl (fun acc x => if x ∈ acc then acc else acc ++ [x]) acc ↔ x ∈ acc ∨ x ∈ l
  | [], acc, x => by simp
  | y :: l, acc, x => by
    rw [List.foldl_cons, df_mem_acc l]
    by_cases hy : y ∈ acc
    · rw [if_pos hy, List.mem_cons]
      constructor
      · rintro (h | h)
        · exact .inl h
        · exact .inr (.inr h)
      · rintro (h | rfl | h)
        · exact .inl h
        · exact .inl hy
        · exact .inr h
    · rw [if_neg hy, List.mem_append, List.mem_singleton, List.mem_cons]
      constructor
      · rintro ((h | h) | h)
        · exact .inl h
        · exact .inr (.inl h)
        · exact .inr (.inr h)
      · rintro (h | h | h)
        · exact .inl (.inl h)
        · exact .inl (.inr h)
        · exact .inr h

theorem mem_df {l : List Fg} {x : Fg} : x ∈ dfL l ↔ x ∈ l := by
  unfold dfL
  rw [df_mem_acc]
  simp

theorem df_len (l : List Fg) : (dfL l).length ≤ l.length := by
  have : ∀ (l acc : List Fg), (l.foldl (fun acc x => if x ∈ acc then acc else acc ++ [x]) acc).length ≤ acc.length + l.length := by
    intro l
    induction l with
    | nil => intro acc; simp
    | cons y l ih =>
      intro acc
      rw [List.foldl_cons]
      have := ih (if y ∈ acc then acc else acc ++ [y])
      by_cases hy : y ∈ acc
      · rw [if_pos hy] at this ⊢
        simp only [List.length_cons]; omega
      · rw [if_neg hy] at this ⊢
        simp only [List.length_cons, List.length_append, List.length_nil] at this ⊢; omega
  have h := this l []
  unfold dfL
  simpa using h

/-- A set that reads as the keys of these. -/
def SetIs (D : DataW Unit) (s : List Fg) : Prop := IsMap D ∧ ∀ kl : Lit, Maps.has D kl = true ↔ ∃ y ∈ s, keyF y = kl

theorem set_nil : SetIs (.map []) [] := ⟨⟨[], rfl⟩, fun kl => by simp [Maps.has]⟩

def frQ (x : Fg) : Prop := 0 ≤ x.f ∧ x.f ≤ 600 ∧ x.d.length ≤ 300

theorem set_put {D : DataW Unit} {s : List Fg} {x : Fg} (h : SetIs D s) (hm : IsMap (D.put (keyF x) (.agg []))) : SetIs (D.put (keyF x) (.agg [])) (s ++ [x]) := by
  refine ⟨hm, fun kl => ?_⟩
  by_cases e : kl = keyF x
  · subst e
    rw [Maps.has_put_same h.1 (by trivial)]
    exact ⟨fun _ => ⟨x, by simp, rfl⟩, fun _ => rfl⟩
  · rw [Maps.has_put_other e, h.2]
    constructor
    · rintro ⟨y, hy, hk⟩
      exact ⟨y, List.mem_append.mpr (.inl hy), hk⟩
    · rintro ⟨y, hy, hk⟩
      rcases List.mem_append.mp hy with hy | hy
      · exact ⟨y, hy, hk⟩
      · obtain rfl := List.mem_singleton.mp hy
        exact absurd hk.symm e

theorem set_has {D : DataW Unit} {s : List Fg} {x : Fg} (h : SetIs D s) (hs : ∀ y ∈ s, frQ y) (hx : frQ x) : Maps.has D (keyF x) = decide (x ∈ s) := by
  by_cases hm : x ∈ s
  · rw [decide_eq_true hm]
    exact (h.2 _).mpr ⟨x, hm, rfl⟩
  · rw [decide_eq_false hm]
    cases k : Maps.has D (keyF x) with
    | false => rfl
    | true =>
      obtain ⟨y, hy, hk⟩ := (h.2 _).mp k
      have hq := hs y hy
      have := key_inj ⟨hq.1, hq.2.1⟩ hq.2.2 ⟨hx.1, hx.2.1⟩ hx.2.2 hk
      subst this
      exact absurd hy hm

theorem box3 (w : World) (x y z : Value) (T : TypeId) : (w.alloc (.cells #[x, y, z] T)).cell? ⟨w.heap.size, 0, none⟩ = some x ∧ (w.alloc (.cells #[x, y, z] T)).cell? ⟨w.heap.size, 1, none⟩ = some y ∧ (w.alloc (.cells #[x, y, z] T)).cell? ⟨w.heap.size, 2, none⟩ = some z := by
  exact ⟨by simp, by simp, by simp⟩

theorem fown_kept {w w' : World} {B : Nat} {e : TypeId} {v : Value} {n s : Nat} {xs : List Value} (h : w.ownsRow B e s v n xs) (hg : w.grownBy w' none) : w'.ownsRow B e s v n xs := h.kept hg (by cases v.ownBlock <;> simp)

theorem fown_slice {w : World} {base : Nat} {e : TypeId} {v : Value} {n s : Nat} {xs : List Value} (h : w.ownsRow base e s v n xs) : ∃ ao c, v = .slice ao n c := by
  rcases h.2 with ⟨hv, h0⟩ | ⟨g, cap, cur, hv, _⟩
  · exact ⟨none, 0, by rw [hv, h0]⟩
  · exact ⟨_, _, hv⟩

theorem fown_base {w : World} {B B' : Nat} {e : TypeId} {v : Value} {n s : Nat} {xs : List Value} (h : w.ownsRow B e s v n xs) (hB : B' ≤ B) : w.ownsRow B' e s v n xs := by
  rcases h with ⟨h1, h2 | ⟨g, cap, cur, h3, h4, h5⟩⟩
  · exact ⟨h1, .inl h2⟩
  · exact ⟨h1, .inr ⟨g, cap, cur, h3, Nat.le_trans hB h4, h5⟩⟩

theorem frow_ne {w : World} {C X : Nat} {e : TypeId} {v : Value} {m s : Nat} {ys : List Value} (k : w.ownsRow C e s v m ys) (hX : X < C) : v.ownBlock = none ∨ v.ownBlock ≠ some X := by
  cases hv : v.ownBlock with
  | none => exact .inl rfl
  | some g =>
    refine .inr fun e => ?_
    cases e
    have h2 := (k.lt X hv).1
    omega

theorem fgrow_row {w a b : World} {C : Nat} {e : TypeId} {v : Value} {m s : Nat} {ys : List Value} (h : w.grownBy a none) (k : a.grownBy b v.ownBlock) (ho : a.ownsRow C e s v m ys) (hC : w.heap.size ≤ C) : w.grownBy b none := by
  cases hv : v.ownBlock with
  | none => rw [hv] at k; exact grownBy_trans h k
  | some g =>
    rw [hv] at k
    exact grownBy_new h k (Nat.le_trans hC (ho.lt g hv).1)

theorem zeroU (w : World) : (zeroValue 67).run Try.prog w = .ok (.agg #[]) w := by kernel_rfl

def DfPost (w : World) (l : List Fg) (e : Ending) (w' : World) : Prop := ∃ a c, e = .returned (.slice a (dfL l).length c) ∧ w.grownBy w' none ∧ OwnFg w' w.heap.size a c (dfL l)

def DfRel (w : World) (l : List Fg) (v i : Value) (wr : World) : Prop :=
  ∃ (k : Nat) (D : DataW Unit), k ≤ l.length ∧ i = .int .i64 k ∧ SetIs D (dfL (l.take k)) ∧ wr.ownsMap Try.prog 30 unitElem w.heap.size k D ∧ wr.ownsRow (w.heap.size + 1) 30 3 v (dfL (l.take k)).length (fgsV (dfL (l.take k))) ∧ w.grownBy wr none

set_option maxRecDepth 100000 in
set_option maxHeartbeats 1500000 in
theorem diff_I (a : Option Addr) (c : Nat) (l : List Fg) (w : World) (h : FgAt w a l) (hq : ∀ x ∈ l, frQ x) (hl : l.length ≤ 200) : Calls Try.prog 30 #[.slice a l.length c] w (DfPost w l) := by
  have hmm := @run_makeMap Try.prog
  obtain ⟨i0, hi, hz0, hz1, hz2⟩ := info_of infoFg
  have H := Lib.hid h
  have gM := World.grownBy_alloc w (.map #[] 0) none
  have hM := World.ownsMap_made (H := Unit) w Try.prog 30 unitElem
  have HM := Lib.hid (And.intro gM hM)
  clear h gM hM
  go_enter Try.func30, Try.ntmps30
  go_wp2_with fail
  go_loopw [4, 6, 7, 8, 12] (fun v s6 s7 s8 i wr => DfRel w l v i wr) (fun _ _ _ _ i _ => l.length - (intOf i).toNat)
  case atStart => exact ⟨0, .map [], Nat.zero_le _, rfl, set_nil, HM.out.2, World.ownsRow_nil _ _ _ _, HM.out.1⟩
  case round =>
    clear HM
    obtain ⟨k, D, hk, rfl, hs, hm, ho, hg⟩ := hrel
    have HS := Lib.hid (And.intro hs (And.intro hm (And.intro ho hg)))
    clear hs hm ho hg
    by_cases hlt : k < l.length
    · rcases H.out.kept HS.out.2.2.2 with h0 | ⟨b, off, rfl, hbb, hc⟩
      · rw [h0] at hlt
        simp at hlt
      · obtain ⟨c0, c1, c2⟩ := hc k hlt
        have hqx := hq l[k] (List.getElem_mem hlt)
        have hqs : ∀ y ∈ dfL (l.take k), frQ y := fun y hy => hq y (List.mem_of_mem_take (mem_df.mp hy))
        have hlen := df_len (l.take k)
        have hhas := set_has HS.out.1 hqs hqx
        have HN := Lib.hid (df_next l k hlt)
        have hkey := key_at l[k] ⟨hqx.1, hqx.2.1⟩ hqx.2.2
        rw [List.length_take] at hlen
        clear hc hbb hqs hqx
        generalize l[k] = x at *
        have hlt' : (k : Int) < (l.length : Int) := by omega
        have hk0 : (0 : Int) ≤ (k : Int) := by omega
        have gB := Lib.hid (grownBy_trans (World.grownBy_alloc wr (.cells #[.int .i64 x.f, .bool x.m, .string ⟨x.d.toArray⟩] 30) none) (World.grownBy_alloc _ (.cells #[] 67) none))
        have gA := Lib.hid (World.grownBy_alloc wr (.cells #[.int .i64 x.f, .bool x.m, .string ⟨x.d.toArray⟩] 30) none)
        by_cases hc : x ∈ dfL (l.take k)
        · rw [decide_eq_true hc] at hhas
          have HC := Lib.hid hc
          clear hc
          go_wp2_with (at_lookup; refine wpList_lookup_own_unit _ rfl _ _ 66 rfl 30 67 keyed Try.underlying66 (zeroU _) w.heap.size k D rfl (HS.out.2.1.kept gA.out (by simp)) _ _ rfl hkey ?_)
          go_roundw
          case rel => exact ⟨k + 1, D, hlt, by go_num, by rw [HN.out, if_pos HC.out]; exact HS.out.1, (HS.out.2.1.kept gB.out (by simp)).mono (Nat.le_succ _), by rw [HN.out, if_pos HC.out]; exact fown_kept HS.out.2.2.1 gB.out, grownBy_trans HS.out.2.2.2 gB.out⟩
          case measure => simp [intOf]; omega
        · rw [decide_eq_false hc] at hhas
          have HC := Lib.hid hc
          clear hc
          obtain ⟨e0, e1, e2⟩ := box3 wr (.int .i64 x.f) (.bool x.m) (.string ⟨x.d.toArray⟩) 30
          have hne : wr.heap.size ≠ w.heap.size := Nat.ne_of_gt HS.out.2.1.lt
          have d0 := (World.grownBy_alloc _ (.cells #[] 67) none).cell e0 (by simp)
          have d1 := (World.grownBy_alloc _ (.cells #[] 67) none).cell e1 (by simp)
          have d2 := (World.grownBy_alloc _ (.cells #[] 67) none).cell e2 (by simp)
          clear e0 e1 e2
          go_wp2_with (first
            | (at_lookup; refine wpList_lookup_own_unit _ rfl _ _ 66 rfl 30 67 keyed Try.underlying66 (zeroU _) w.heap.size k D rfl (HS.out.2.1.kept gA.out (by simp)) _ _ rfl hkey ?_)
            | (at_mapUpdate; refine wpList_mapUpdate_own _ rfl _ _ _ 66 rfl 30 67 keyed Try.underlying66 (unitElem (H := Unit)) w.heap.size k D rfl (HS.out.2.1.kept gB.out (by simp)) (by unfold maxLen; omega) _ _ _ rfl rfl hkey _ [] unitElem_mk ?_; intro w1 hown1 hgrow1; have y0 := hgrow1.cell d0 (by simp; omega); have y1 := hgrow1.cell d1 (by simp; omega); have y2 := hgrow1.cell d2 (by simp; omega))
            | (at_builtin; refine wpList_append_own _ rfl _ _ 26 rfl (w.heap.size + 1) 30 i0 _ 3 32 Try.underlying26 hi hz0 hz1 hz2 rfl (by decide) _ _ _ rfl (((fown_kept HS.out.2.2.1 gB.out).kept hgrow1 (frow_ne HS.out.2.2.1 (Nat.lt_succ_self _))).alloc _) ⟨w1.heap.size, 0, none⟩ 1 1 [.int .i64 x.f, .bool x.m, .string ⟨x.d.toArray⟩] rfl rfl (trip_new w1 _ _ _ _ _ rfl) (by simp [Value.oneCell']) (by unfold maxLen; omega) (by omega) (by have h1 := hgrow1.size; have h2 := gB.out.size; have h3 := HS.out.2.1.lt; simp at h1 h2 ⊢; omega) ?_; intro v' w2 hown2 hgrow2 _))
          have hD := set_put HS.out.1 hown1.isMap
          have hr1 := (fown_kept HS.out.2.2.1 gB.out).kept hgrow1 (frow_ne HS.out.2.2.1 (Nat.lt_succ_self _))
          have g1 := grownBy_new (grownBy_trans HS.out.2.2.2 gB.out) hgrow1 (Nat.le_refl _)
          have gL := World.grownBy_alloc w1 (.cells #[.int .i64 x.f, .bool x.m, .string ⟨x.d.toArray⟩] 30) none
          have g2 := fgrow_row (grownBy_trans g1 gL) hgrow2 (fown_kept hr1 gL) (Nat.le_succ _)
          have hm2 : w2.ownsMap Try.prog 30 unitElem w.heap.size (k + 1) (D.put (keyF x) (.agg [])) := (hown1.alloc _).kept hgrow2 (fun e => by
            rcases frow_ne HS.out.2.2.1 (Nat.lt_succ_self _) with h | h
            · exact absurd (e.trans h) (by simp)
            · exact h e.symm)
          have HW := Lib.hid (And.intro hD (And.intro hm2 (And.intro hown2 g2)))
          clear hD hr1 g1 gL g2 hm2 hown1 hown2 hgrow1 hgrow2 y0 y1 y2 d0 d1 d2
          go_roundw
          case rel => exact ⟨k + 1, _, hlt, by go_num, by rw [HN.out, if_neg HC.out]; exact HW.out.1, HW.out.2.1, by rw [HN.out, if_neg HC.out, fgsV_snoc, List.length_append]; exact HW.out.2.2.1, HW.out.2.2.2⟩
          case measure => simp [intOf]; omega
    · obtain rfl : k = l.length := by omega
      rw [List.take_length] at HS
      obtain ⟨a5, c5, rfl⟩ := fown_slice HS.out.2.2.1
      go_wp2_with fail
      go_ret
      exact ⟨a5, c5, rfl, HS.out.2.2.2, fown_base HS.out.2.2.1 (Nat.le_succ _)⟩

end Go.Proofs.Ytaigdimicnlfdaa
