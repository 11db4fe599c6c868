/- The program's lists of parts of a head: what each writes, and the writing of a whole list. -/
import Derived.Test.YthfhffcimjolgaaBuild
import Derived.Handy
import Derived.StillTailTactics
namespace Go.Proofs.Ythfhffcimjolgaa
open Go.RowKit

inductive Part where
  | fix (n sz : Int)
  | num (a : Addr) (sz : Int)
  | txt (a : Addr) (sz : Int)

def Part.val : Part → Value
  | .fix n sz => .iface 79 (.agg #[.int .i64 n, .int .i64 sz])
  | .num a sz => .iface 82 (.agg #[.pointer (some a), .int .i64 sz])
  | .txt a sz => .iface 85 (.agg #[.pointer (some a), .int .i64 sz])

/-- What a part writes. -/
def Part.out (w : World) (l : List UInt8) : Part → Prop
  | .fix n sz => l = putL n sz
  | .num a sz => ∃ x, w.cell? a = some (.int .i64 x) ∧ l = putL x sz
  | .txt a _ => w.cell? a = some (.string ⟨l.toArray⟩)

theorem Part.out_kept {w w' : World} {l : List UInt8} {p : Part} (h : p.out w l) (hg : w.grownBy w' none) : p.out w' l := by
  cases p with
  | fix n sz => exact h
  | num a sz => obtain ⟨x, h0, h1⟩ := h; exact ⟨x, hg.cell h0 (by simp), h1⟩
  | txt a sz => exact hg.cell h (by simp)

@[go_sem] theorem asFF (v : Value) (w : World) : (Instr.typeAssert (.iface 79 v) 77 79 true).run Try.prog w = .ok (.tuple #[v, .bool true]) w := by kernel_rfl
@[go_sem] theorem asFN (v : Value) (w : World) : (Instr.typeAssert (.iface 79 v) 77 82 true).run Try.prog w = .ok (.tuple #[.agg #[.pointer none, .int .i64 0], .bool false]) w := by kernel_rfl
@[go_sem] theorem asFT (v : Value) (w : World) : (Instr.typeAssert (.iface 79 v) 77 85 true).run Try.prog w = .ok (.tuple #[.agg #[.pointer none, .int .i64 0], .bool false]) w := by kernel_rfl
@[go_sem] theorem asNF (v : Value) (w : World) : (Instr.typeAssert (.iface 82 v) 77 79 true).run Try.prog w = .ok (.tuple #[.agg #[.int .i64 0, .int .i64 0], .bool false]) w := by kernel_rfl
@[go_sem] theorem asNN (v : Value) (w : World) : (Instr.typeAssert (.iface 82 v) 77 82 true).run Try.prog w = .ok (.tuple #[v, .bool true]) w := by kernel_rfl
@[go_sem] theorem asNT (v : Value) (w : World) : (Instr.typeAssert (.iface 82 v) 77 85 true).run Try.prog w = .ok (.tuple #[.agg #[.pointer none, .int .i64 0], .bool false]) w := by kernel_rfl
@[go_sem] theorem asTF (v : Value) (w : World) : (Instr.typeAssert (.iface 85 v) 77 79 true).run Try.prog w = .ok (.tuple #[.agg #[.int .i64 0, .int .i64 0], .bool false]) w := by kernel_rfl
@[go_sem] theorem asTN (v : Value) (w : World) : (Instr.typeAssert (.iface 85 v) 77 82 true).run Try.prog w = .ok (.tuple #[.agg #[.pointer none, .int .i64 0], .bool false]) w := by kernel_rfl
@[go_sem] theorem asTT (v : Value) (w : World) : (Instr.typeAssert (.iface 85 v) 77 85 true).run Try.prog w = .ok (.tuple #[v, .bool true]) w := by kernel_rfl

def PutRel (w : World) (ps : List Part) (ol : List (List UInt8)) (i : Value) (wr : World) : Prop :=
  ∃ j : Nat, j ≤ ps.length ∧ i = .int .i64 j ∧ w.grownBy wr none ∧ w.heap.size ≤ wr.heap.size ∧ Lib.IsBuilder 69 5 w.heap.size w.heap.size (Lib.byteCells (ol.take j).flatten) wr

theorem flat_len (ol : List (List UInt8)) (n : Nat) (h : ∀ l ∈ ol, l.length ≤ n) : ol.flatten.length ≤ n * ol.length := by
  induction ol with
  | nil => simp
  | cons l t ih =>
    have a := h l (by simp)
    have b := ih (fun x hx => h x (by simp [hx]))
    simp only [List.flatten_cons, List.length_append, List.length_cons, Nat.mul_add]
    omega
theorem flat_next (ol : List (List UInt8)) (j : Nat) (h : j < ol.length) : (ol.take (j + 1)).flatten = (ol.take j).flatten ++ ol[j] := by
  rw [List.take_succ_eq_append_getElem h, List.flatten_append]
  simp

theorem put_room {ol : List (List UInt8)} {j : Nat} {m : List UInt8} (hn : ol.length ≤ 100) (hm : ∀ l ∈ ol, l.length ≤ 1000) (h : m.length ≤ 1000) : (Lib.byteCells (ol.take j).flatten).length + (⟨m.toArray⟩ : ByteArray).size ≤ 140737488355328 := by
  have h1 := flat_len (ol.take j) 1000 (fun l hl => hm l (List.mem_of_mem_take hl))
  have h2 : (ol.take j).length ≤ ol.length := by simp; omega
  rw [str_size, Lib.byteCells_length]
  omega

set_option maxRecDepth 100000 in
set_option maxHeartbeats 400000 in
theorem put_parts (b c : Nat) (ps : List Part) (ol : List (List UInt8)) (w : World) (hl : ol.length = ps.length) (hn : ps.length ≤ 100) (hm : ∀ l ∈ ol, l.length ≤ 1000)
    (hp : ∀ i (h : i < ps.length), w.cell? ⟨b, i, none⟩ = some ps[i].val) (ho : ∀ i (h : i < ps.length) (h' : i < ol.length), ps[i].out w ol[i]) :
    Calls Try.prog 21 #[.slice (some ⟨b, 0, none⟩) ps.length c] w (StrPost w ol.flatten) := by
  have HP := Lib.hid hp
  have HO := Lib.hid ho
  have HM := Lib.hid hm
  have HL := Lib.hid hl
  clear hp ho hm hl
  go_enter Try.func21, Try.ntmps21
  have hb := Lib.fresh_isBuilder 69 5 w
  have hg1 := World.grownBy_alloc w (.cells #[.pointer none, .slice none 0 0] 69) none
  have H1 := Lib.hid (And.intro hb hg1)
  clear hb hg1
  go_wp2_with fail
  go_loopw [11] (fun i wr => PutRel w ps ol i wr) (fun i _ => ps.length - (intOf i).toNat)
  case atStart => exact ⟨0, Nat.zero_le _, rfl, H1.out.2, H1.out.2.size, H1.out.1⟩
  case round =>
    obtain ⟨j, hj, rfl, hg, hsz, hbld⟩ := hrel
    have HS := Lib.hid (And.intro hbld (And.intro hg hsz))
    clear hg hbld hsz
    by_cases hlt : j < ps.length
    · have hjo : j < ol.length := by rw [HL.out]; exact hlt
      have hc := HS.out.2.1.cell (HP.out j hlt) (by simp)
      have HV := Lib.hid (Part.out_kept (HO.out j hlt hjo) HS.out.2.1)
      have HN := Lib.hid (flat_next ol j hjo)
      have HK := Lib.hid (HM.out ol[j] (List.getElem_mem hjo))
      generalize ps[j] = p at hc HV
      generalize ol[j] = m at HV HN HK
      have hlt' : (j : Int) < (ps.length : Int) := by omega
      cases p with
      | fix n sz =>
        obtain rfl : m = putL n sz := HV.out
        simp only [Part.val] at hc
        have HA := Lib.hid (World.grownBy_alloc wr (.cells #[.int .i64 n, .int .i64 sz] 79) none)
        go_wp2_with fail
        refine (put_be_impl _ _ _).mono ?_
        rintro e w2 ⟨rfl, hg⟩
        have H2 := Lib.hid (And.intro (bld_kept HS.out.1 (grownBy_trans HA.out hg)) (grownBy_trans HS.out.2.1 (grownBy_trans HA.out hg)))
        clear hg
        go_wp2_with fail
        refine (write_any w.heap.size w.heap.size _ _ _ H2.out.1 (put_room (by rw [HL.out]; exact hn) HM.out HK.out) (bld_at H2.out.1)).mono ?_
        rintro e w3 ⟨rfl, hbld, hbel⟩
        have hbld' := bld_said hbld
        rw [← HN.out] at hbld'
        have H3 := Lib.hid (And.intro hbld' (grow_below H2.out.2 hbel (Nat.le_refl _)))
        clear hbld hbel hbld'
        go_wp2_with fail
        go_round
        case rel => exact ⟨j + 1, by omega, by go_num, H3.out.2, H3.out.2.size, H3.out.1⟩
        case measure => simp [intOf]; omega
      | num a sz =>
        obtain ⟨x, hx, rfl⟩ := HV.out
        simp only [Part.val] at hc
        have HA := Lib.hid (World.grownBy_alloc wr (.cells #[.pointer (some a), .int .i64 sz] 82) none)
        have hx' := HA.out.cell hx (by simp)
        have hf0 : (wr.alloc (.cells #[.pointer (some a), .int .i64 sz] 82)).drew.cell? ⟨wr.heap.size, 0, none⟩ = some (.pointer (some a)) := by go_simp
        have hf1 : (wr.alloc (.cells #[.pointer (some a), .int .i64 sz] 82)).drew.cell? ⟨wr.heap.size, 1, none⟩ = some (.int .i64 sz) := by go_simp
        have hx2 : (wr.alloc (.cells #[.pointer (some a), .int .i64 sz] 82)).drew.cell? a = some (.int .i64 x) := by rw [World.cell?_drew]; exact hx'
        have hd : (wr.alloc (.cells #[.pointer (some a), .int .i64 sz] 82)).grownBy (wr.alloc (.cells #[.pointer (some a), .int .i64 sz] 82)).drew none := grownBy_drewN 1
        have HD := Lib.hid (grownBy_trans HA.out hd)
        clear hx' hx hd
        go_wp2_with fail
        generalize hw9 : wr.alloc (.cells #[.pointer (some a), .int .i64 sz] 82) = w9 at hf0 hf1 hx2 HD ⊢
        clear hw9
        refine wp_region_still_tail 6 (by kernel_rfl) (by kernel_rfl) ?_
        change wpStill _ _ w9.drew (fun a' => wpList _ _ _ _ a' w9.drew) _ _
        simp only [List.take_succ_cons, List.take_zero, List.drop_succ_cons, List.drop_zero]
        generalize w9.drew = w8 at hf0 hf1 hx2 HD ⊢
        repeat still_step
        try refine wpStill_nil ?_
        go_wp2_with fail
        refine (put_be_impl _ _ _).mono ?_
        rintro e w2 ⟨rfl, hg⟩
        have H2 := Lib.hid (And.intro (bld_kept HS.out.1 (grownBy_trans HD.out hg)) (grownBy_trans HS.out.2.1 (grownBy_trans HD.out hg)))
        clear hg
        go_wp2_with fail
        refine (write_any w.heap.size w.heap.size _ _ _ H2.out.1 (put_room (by rw [HL.out]; exact hn) HM.out HK.out) (bld_at H2.out.1)).mono ?_
        rintro e w3 ⟨rfl, hbld, hbel⟩
        have hbld' := bld_said hbld
        rw [← HN.out] at hbld'
        have H3 := Lib.hid (And.intro hbld' (grow_below H2.out.2 hbel (Nat.le_refl _)))
        clear hbld hbel hbld'
        go_wp2_with fail
        go_round
        case rel => exact ⟨j + 1, by omega, by go_num, H3.out.2, H3.out.2.size, H3.out.1⟩
        case measure => simp [intOf]; omega
      | txt a sz =>
        have hx : wr.cell? a = some (.string ⟨m.toArray⟩) := HV.out
        simp only [Part.val] at hc
        have HA := Lib.hid (World.grownBy_alloc wr (.cells #[.pointer (some a), .int .i64 sz] 85) none)
        have hx' := HA.out.cell hx (by simp)
        have H2 := Lib.hid (And.intro (bld_kept HS.out.1 HA.out) (grownBy_trans HS.out.2.1 HA.out))
        go_wp2_with fail
        refine (write_any w.heap.size w.heap.size _ _ _ H2.out.1 (put_room (by rw [HL.out]; exact hn) HM.out HK.out) (bld_at H2.out.1)).mono ?_
        rintro e w3 ⟨rfl, hbld, hbel⟩
        have hbld' := bld_said hbld
        rw [← HN.out] at hbld'
        have H3 := Lib.hid (And.intro hbld' (grow_below H2.out.2 hbel (Nat.le_refl _)))
        clear hbld hbel hbld'
        go_wp2_with fail
        go_round
        case rel => exact ⟨j + 1, by omega, by go_num, H3.out.2, H3.out.2.size, H3.out.1⟩
        case measure => simp [intOf]; omega
    · obtain rfl : j = ps.length := by omega
      have ht : ol.take ps.length = ol := by rw [← HL.out]; exact List.take_length
      have HT := Lib.hid ht
      clear ht
      go_wp2_with fail
      refine (string_any w.heap.size w.heap.size _ _ HS.out.1 (bld_at HS.out.1)).mono ?_
      rintro e w3 ⟨rfl, hbel⟩
      have H3 := Lib.hid (grow_below HS.out.2.1 hbel (Nat.le_refl _))
      clear hbel
      go_wp2_with fail
      go_ret
      exact ⟨ret_s (by rw [HT.out]), H3.out⟩

end Go.Proofs.Ythfhffcimjolgaa
