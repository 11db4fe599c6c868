/- What is told of ranges: the program's bytes and the model's. -/
import Derived.Test.YthfhffcimjolgaaTcpL
import Derived.Test.YthfhffcimjolgaaBeInt
namespace Go.Proofs.Ythfhffcimjolgaa
open Go.RowKit

def rgL (x : Rg) : List UInt8 := putL x.1 4 ++ putL x.2 4
def optHead (n : Nat) : List UInt8 := putL 1 1 ++ putL 1 1 ++ putL 5 1 ++ putL (2 + 8 * n) 1
def optL (l : List Rg) : List UInt8 := if l = [] then [] else optHead l.length ++ l.flatMap rgL
theorem one_len (x : Int) (h0 : 0 ≤ x) (h1 : x < 256) : (putL x 1).length = 1 := putL_len x 1 (put1 h0 h1)
theorem four_len (x : Int) (h0 : 0 ≤ x) (h1 : x < 4294967296) : (putL x 4).length = 4 := putL_len x 4 (put4 h0 h1)
theorem rgL_len (x : Rg) (h : rgOk x) : (rgL x).length = 8 := by
  unfold rgL
  rw [List.length_append, four_len _ h.1 h.2.1, four_len _ h.2.2.1 h.2.2.2]
theorem rgs_len : ∀ l : List Rg, (∀ x ∈ l, rgOk x) → (l.flatMap rgL).length = 8 * l.length
  | [], _ => rfl
  | x :: l, h => by
    have h1 := rgs_len l (fun y hy => h y (by simp [hy]))
    have h2 := rgL_len x (h x (by simp))
    simp only [List.flatMap_cons, List.length_append, List.length_cons]
    omega
theorem optHead_len (n : Nat) (h : n ≤ 3) : (optHead n).length = 4 := by
  unfold optHead
  simp only [List.length_append, one_len 1 (by omega) (by omega), one_len 5 (by omega) (by omega), one_len (2 + 8 * (n : Int)) (by omega) (by omega)]
theorem optL_len (l : List Rg) (h : sackP l) : (optL l).length = if l = [] then 0 else 4 + 8 * l.length := by
  unfold optL
  split
  · rfl
  · rw [List.length_append, optHead_len _ h.1, rgs_len l h.2]
theorem rgs_next (l : List Rg) (j : Nat) (h : j < l.length) : (l.take (j + 1)).flatMap rgL = (l.take j).flatMap rgL ++ (putL (l[j]).1 4 ++ putL (l[j]).2 4) := by
  rw [List.take_succ_eq_append_getElem h, List.flatMap_append]
  simp [rgL]
theorem take_ok {l : List Rg} (h : ∀ x ∈ l, rgOk x) (j : Nat) : ∀ x ∈ l.take j, rgOk x := fun x hx => h x (List.mem_of_mem_take hx)

def OptRel (w : World) (l : List Rg) (s i : Value) (wr : World) : Prop :=
  ∃ j : Nat, j ≤ l.length ∧ i = .int .i64 j ∧ w.grownBy wr none ∧ s = .string ⟨(optHead l.length ++ (l.take j).flatMap rgL).toArray⟩

theorem put_marks : ({ data := #[1, 1, 5] } : ByteArray) = ⟨(putL 1 1 ++ putL 1 1 ++ putL 5 1).toArray⟩ := by rfl

set_option maxRecDepth 100000 in
set_option maxHeartbeats 1000000 in
theorem opt_spec (a : Option Addr) (c : Nat) (l : List Rg) (w : World) (h : RgAt w a l) (hp : sackP l) : Calls Try.prog 32 #[.slice a l.length c] w (StrPost w (optL l)) := by
  have H := Lib.hid (And.intro h hp)
  clear h
  by_cases h0 : l = []
  · subst h0
    go_enter Try.func32, Try.ntmps32
    go_wp2_with fail
    go_ret
    exact ⟨ret_s (a := []) rfl, World.grownBy.refl _ _⟩
  · have hl0 : (l.length == 0) = false := by simpa using h0
    have hn : 0 < l.length := by
      cases l with
      | nil => exact absurd rfl h0
      | cons _ _ => simp
    have hn3 := hp.1
    have hw1 : IntKind.i64.wrap (8 * (l.length : Int)) = 8 * (l.length : Int) := IntWalk.i64_in _ (by omega)
    have hw2 : IntKind.i64.wrap (2 + 8 * (l.length : Int)) = 2 + 8 * (l.length : Int) := IntWalk.i64_in _ (by omega)
    have k1 := put1 (x := 2 + 8 * (l.length : Int)) (by omega) (by omega)
    have l1 : (putL (2 + 8 * (l.length : Int)) 1).length = 1 := putL_len _ _ k1
    have HE := Lib.hid (show optL l = optHead l.length ++ l.flatMap rgL from if_neg h0)
    clear hp h0
    go_enter Try.func32, Try.ntmps32
    go_wp2_with fail
    refine (be_int _ _ _ (by assumption)).mono ?_
    rintro e w1 ⟨rfl, hg⟩
    have HG := Lib.hid hg
    clear hg
    go_wp2_with fail
    go_loopw [3, 4] (fun s i wr => OptRel w l s i wr) (fun _ i _ => l.length - (intOf i).toNat)
    case atStart =>
      refine ⟨0, Nat.zero_le _, rfl, HG.out, ?_⟩
      rw [put_marks, ba_append, List.take_zero]
      simp [optHead]
    case round =>
      obtain ⟨j, hj, rfl, hg, rfl⟩ := hrel
      have HS := Lib.hid hg
      clear hg
      by_cases hlt : j < l.length
      · rcases (H.out.1.kept HS.out) with h0 | ⟨b, off, rfl, hb, hc⟩
        · rw [h0] at hlt
          simp at hlt
        · obtain ⟨c0, c1⟩ := hc j hlt
          clear hc
          have hx := H.out.2.2 l[j] (List.getElem_mem hlt)
          have hT : (optHead l.length ++ (l.take j).flatMap rgL).length ≤ 28 := by
            rw [List.length_append, optHead_len _ hn3, rgs_len _ (take_ok H.out.2.2 j), List.length_take]
            omega
          have HN := Lib.hid (rgs_next l j hlt)
          obtain ⟨T, hTe⟩ : ∃ T, T = optHead l.length ++ (l.take j).flatMap rgL := ⟨_, rfl⟩
          rw [← hTe] at hT ⊢
          have HT := Lib.hid hTe
          clear hTe
          generalize l[j] = x at *
          obtain ⟨u, v⟩ := x
          obtain ⟨x1, x2, x3, x4⟩ := hx
          simp only at x1 x2 x3 x4
          have ku := put4 x1 x2
          have kv := put4 x3 x4
          have lu : (putL u 4).length = 4 := putL_len _ _ ku
          have lv : (putL v 4).length = 4 := putL_len _ _ kv
          have hlt' : (j : Int) < (l.length : Int) := by omega
          have hj0 : (0 : Int) ≤ (j : Int) := by omega
          have hwj : IntKind.i64.wrap ((j : Int) + 1) = (j : Int) + 1 := IntWalk.i64_in _ (by omega)
          have b1 : ¬ 9223372036854775807 < T.length + 4 := by omega
          have b2 : ¬ 9223372036854775807 < T.length + 4 + 4 := by omega
          clear x1 x2 x3 x4 k1 l1 hw1 hw2 hT
          go_wp2_with fail
          go_region_held3 (fun w' => w'.cell? ⟨b, off + j * 2, none⟩ = some (.int .i64 u) ∧ w'.cell? ⟨b, off + j * 2 + 1, none⟩ = some (.int .i64 v) ∧ wr.grownBy w' none) ((refine ⟨by first | assumption | (simp [*]; done), by first | assumption | (simp [*]; done), by first | assumption | exact grownBy_drew | exact grownBy_trans (by assumption) (by assumption)⟩))
            (first | (go_at_call 49; refine (be_int _ _ _ (by assumption)).mono ?_; rintro e w2 ⟨rfl, hg⟩; have q0 := hg.cell (a := ⟨b, off + j * 2, none⟩) (v := .int .i64 u) (by assumption) (by simp); have q1 := hg.cell (a := ⟨b, off + j * 2 + 1, none⟩) (v := .int .i64 v) (by assumption) (by simp); have q2 : wr.grownBy w2 none := by first | exact grownBy_trans grownBy_drew hg | exact grownBy_trans (by assumption) hg))
          rename_i hH
          have HZ := Lib.hid (grownBy_trans HS.out hH.2.2)
          clear hH
          go_wp2_with fail
          go_roundw
          case rel => exact ⟨j + 1, hlt, by go_num, HZ.out, by rw [ba_append, ba_append, HN.out, HT.out]; simp only [List.append_assoc]⟩
          case measure => simp [intOf]; omega
      · obtain rfl : j = l.length := by omega
        go_wp2_with fail
        go_ret
        exact ⟨ret_s (by rw [HE.out, List.take_length]), HS.out⟩

end Go.Proofs.Ythfhffcimjolgaa
