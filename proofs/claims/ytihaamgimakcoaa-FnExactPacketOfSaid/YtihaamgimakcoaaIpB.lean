/- A packet's bytes: the program's own writing. -/
import Derived.Test.YtihaamgimakcoaaIpP
import Derived.Test.YtihaamgimakcoaaGetF
import Derived.Deep.RegionHeld3
namespace Go.Proofs.Ytihaamgimakcoaa
open Go.RowKit

def ipOl (s d t p i n m : Int) : List (List UInt8) := [putL 17664 2, putL n 2, putL i 2, putL 16384 2, putL t 1, putL p 1, putL m 2, putL s 4, putL d 4]
def ipHead (s d t p i n m : Int) : List UInt8 := (ipOl s d t p i n m).flatten
def ipSum (s d t p i n : Int) : Int := sum16 (ipHead s d t p i n 0)
def ipT (s d t p i : Int) (b : List UInt8) : List UInt8 := ipHead s d t p i (20 + b.length) (ipSum s d t p i (20 + b.length)) ++ b
def ipL (s d t p i : Int) (b : List UInt8) : List UInt8 := if ipOk s d t p i b then ipT s d t p i b else []

def ipCells (P : Nat) (s d t p i b : Value) : List (Addr × Value) := [(⟨P, 0, none⟩, s), (⟨P, 1, none⟩, d), (⟨P, 2, none⟩, t), (⟨P, 3, none⟩, p), (⟨P, 4, none⟩, i), (⟨P, 5, none⟩, b)]
def oneCells (Z : Nat) (v : Value) : List (Addr × Value) := [(⟨Z, 0, none⟩, v)]
theorem ip_new (w : World) (s d t p i b : Value) (T : TypeId) : Mine w (ipCells w.heap.size s d t p i b) (w.alloc (.cells #[s, d, t, p, i, b] T)) := by
  refine ⟨World.grownBy_alloc _ _ _, ?_⟩
  intro x hx
  simp only [ipCells, List.mem_cons, List.not_mem_nil, or_false] at hx
  rcases hx with rfl | rfl | rfl | rfl | rfl | rfl <;> exact ⟨by go_simp, by go_simp, by simp, rfl⟩
theorem one_new (w : World) (v : Value) (T : TypeId) : Mine w (oneCells w.heap.size v) (w.alloc (.cells #[v] T)) := by
  refine ⟨World.grownBy_alloc _ _ _, ?_⟩
  intro x hx
  simp only [oneCells, List.mem_cons, List.not_mem_nil, or_false] at hx
  subst hx
  exact ⟨by go_simp, by go_simp, by simp, rfl⟩
theorem Mine.app {w a : World} {cs ds : List (Addr × Value)} (h : Mine w cs a) (k : Mine w ds a) : Mine w (cs ++ ds) a := by
  refine ⟨h.grown, fun x hx => ?_⟩
  rcases List.mem_append.mp hx with hx | hx
  · exact h.all x hx
  · exact k.all x hx
theorem Mine.left {w a : World} {cs ds : List (Addr × Value)} (h : Mine w (cs ++ ds) a) : Mine w cs a := ⟨h.grown, fun x hx => h.all x (List.mem_append_left _ hx)⟩
theorem Mine.right {w a : World} {cs ds : List (Addr × Value)} (h : Mine w (cs ++ ds) a) : Mine w ds a := ⟨h.grown, fun x hx => h.all x (List.mem_append_right _ hx)⟩

theorem ip_facts {w w' : World} {P : Nat} {s d t p i b : Value} (hm : Mine w (ipCells P s d t p i b) w') : w'.cell? ⟨P, 0, none⟩ = some s ∧ w'.cell? ⟨P, 1, none⟩ = some d ∧ w'.cell? ⟨P, 2, none⟩ = some t ∧ w'.cell? ⟨P, 3, none⟩ = some p ∧ w'.cell? ⟨P, 4, none⟩ = some i ∧ w'.cell? ⟨P, 5, none⟩ = some b :=
  ⟨hm.cell _ _ (by simp [ipCells]), hm.cell _ _ (by simp [ipCells]), hm.cell _ _ (by simp [ipCells]), hm.cell _ _ (by simp [ipCells]), hm.cell _ _ (by simp [ipCells]), hm.cell _ _ (by simp [ipCells])⟩
theorem one_facts {w w' : World} {Z : Nat} {v : Value} (hm : Mine w (oneCells Z v) w') : w'.cell? ⟨Z, 0, none⟩ = some v ∧ w'.frozen? ⟨Z, 0, none⟩ = false :=
  ⟨hm.cell _ _ (by simp [oneCells]), hm.free ⟨Z, 0, none⟩ v (by simp [oneCells])⟩

theorem ip_out {w w' : World} (P Z S : Nat) (s d t p i n m : Int) (b : Value) (hp : Mine w (ipCells P (.int .i64 s) (.int .i64 d) (.int .i64 t) (.int .i64 p) (.int .i64 i) b) w') (hz : Mine w (oneCells Z (.int .i64 n)) w') (hs : Mine w (oneCells S (.int .i64 m)) w') :
    ∀ j (_ : j < (ipParts P Z S).length) (_ : j < (ipOl s d t p i n m).length), (ipParts P Z S)[j].out w' (ipOl s d t p i n m)[j] := by
  obtain ⟨c0, c1, c2, c3, c4, _⟩ := ip_facts hp
  have z := (one_facts hz).1
  have y := (one_facts hs).1
  intro j h _
  have hi : j = 0 ∨ j = 1 ∨ j = 2 ∨ j = 3 ∨ j = 4 ∨ j = 5 ∨ j = 6 ∨ j = 7 ∨ j = 8 := by simp [ipParts] at h; omega
  rcases hi with rfl | rfl | rfl | rfl | rfl | rfl | rfl | rfl | rfl
  · exact rfl
  · exact ⟨n, z, rfl⟩
  · exact ⟨i, c4, rfl⟩
  · exact rfl
  · exact ⟨t, c2, rfl⟩
  · exact ⟨p, c3, rfl⟩
  · exact ⟨m, y, rfl⟩
  · exact ⟨s, c0, rfl⟩
  · exact ⟨d, c1, rfl⟩
theorem ip_lens (P Z S : Nat) (s d t p i n m : Int) : (ipOl s d t p i n m).length = (ipParts P Z S).length ∧ (ipParts P Z S).length ≤ 100 ∧ ∀ l ∈ ipOl s d t p i n m, l.length ≤ 1000 := by
  refine ⟨rfl, by simp [ipParts], ?_⟩
  intro l hl
  simp only [ipOl, List.mem_cons, List.not_mem_nil, or_false] at hl
  rcases hl with rfl | rfl | rfl | rfl | rfl | rfl | rfl | rfl | rfl
  all_goals (refine Nat.le_trans (len_le _ _) ?_; omega)
theorem ipHead_len (s d t p i n m : Int) : (ipHead s d t p i n m).length ≤ 54 := by
  have a1 := len_le 17664 2
  have a2 := len_le n 2
  have a3 := len_le i 2
  have a4 := len_le 16384 2
  have a5 := len_le t 1
  have a6 := len_le p 1
  have a7 := len_le m 2
  have a8 := len_le s 4
  have a9 := len_le d 4
  simp [ipHead, ipOl]
  omega

def ipAll (P Z S : Nat) (s d t p i n m : Int) (b : Value) : List (Addr × Value) := ipCells P (.int .i64 s) (.int .i64 d) (.int .i64 t) (.int .i64 p) (.int .i64 i) b ++ oneCells Z (.int .i64 n) ++ oneCells S (.int .i64 m)
theorem ip_store {w a : World} {P Z S : Nat} {s d t p i n m : Int} {b : Value} (x : Int) (hPS : P ≠ S) (hZS : Z ≠ S) (h : Mine w (ipAll P Z S s d t p i n m b) a) : Mine w (ipAll P Z S s d t p i n x b) (a.setCell ⟨S, 0, none⟩ (.int .i64 x)) := by
  have h1 := h.set ⟨S, 0, none⟩ (.int .i64 m) (.int .i64 x) (by simp [ipAll, oneCells])
  have e : ((ipAll P Z S s d t p i n m b).map fun y => (y.1, if (⟨S, 0, none⟩ : Addr) = y.1 then Value.int .i64 x else y.2)) = ipAll P Z S s d t p i n x b := by
    simp [ipAll, ipCells, oneCells, Ne.symm hPS, Ne.symm hZS]
  rw [e] at h1
  exact h1
theorem ip_three (w w1 : World) (P : Nat) (s d t p i n : Int) (b : Value) (T : TypeId) (h : Mine w (ipCells P (.int .i64 s) (.int .i64 d) (.int .i64 t) (.int .i64 p) (.int .i64 i) b) w1) : Mine w (ipAll P w1.heap.size (w1.heap.size + 1) s d t p i n 0 b) ((w1.alloc (.cells #[.int .i64 n] T)).alloc (.cells #[.int .i64 0] T)) := by
  have h2 := (one_new (w1.alloc (.cells #[.int .i64 n] T)) (.int .i64 0) T).base (grownBy_trans h.grown (World.grownBy_alloc _ _ _))
  rw [alloc_size] at h2
  exact ((h.kept (grownBy_trans (World.grownBy_alloc _ _ _) (World.grownBy_alloc _ _ _))).app (((one_new w1 (.int .i64 n) T).base h.grown).kept (World.grownBy_alloc _ _ _))).app h2

set_option maxRecDepth 100000 in
set_option maxHeartbeats 2000000 in
theorem ip_impl (s d t p i : Int) (b : List UInt8) (w : World) : Calls Try.prog 34 #[ipV s d t p i b] w (StrPost w (ipL s d t p i b)) := by
  by_cases hok : ipOk s d t p i b
  · have HE := Lib.hid (And.intro hok (show ipL s d t p i b = ipT s d t p i b from if_pos hok))
    have HD := Lib.hid (decide_eq_true hok)
    have hbl : b.length ≤ 362 := hok.2.2.2.2.2.2.2.2.2.2
    have HP := Lib.hid (ip_new w (.int .i64 s) (.int .i64 d) (.int .i64 t) (.int .i64 p) (.int .i64 i) (.string ⟨b.toArray⟩) 32)
    have HL := Lib.hid (fun Z S m => ip_lens w.heap.size Z S s d t p i (20 + b.length) m)
    clear hok
    go_enter Try.func34, Try.ntmps34
    go_wp2_with fail
    refine (ip_ok_impl _ _ _ _ _ _ _).mono ?_
    rintro e w1 ⟨rfl, hg⟩
    rw [HD.out]
    have hm := HP.out.kept hg
    obtain ⟨c0, c1, c2, c3, c4, c5⟩ := ip_facts hm
    have hlt : w.heap.size < w1.heap.size := cell_in c0
    have h3 := ip_three w w1 w.heap.size s d t p i (20 + b.length) _ 2 hm
    have HM := Lib.hid h3
    have hs3 : ((w1.alloc (.cells #[.int .i64 (20 + (b.length : Int))] 2)).alloc (.cells #[.int .i64 0] 2)).heap.size = w1.heap.size + 2 := by rw [alloc_size, alloc_size]
    clear hg hm h3
    go_wp2_with fail
    refine (ip_parts _ _ _ _).mono ?_
    rintro e w4 ⟨pb, pc, rfl, hpb, hg, hpc⟩
    rw [hs3] at hpb
    have H4 := Lib.hid (And.intro (HM.out.kept hg) hpc)
    clear hg hpc HM hs3 c0 c1 c2 c3 c4 c5
    go_wp2_with fail
    refine (put_as (ipHead s d t p i (20 + b.length) 0) _ _ (ipParts w.heap.size w1.heap.size (w1.heap.size + 1)) (ipOl s d t p i (20 + b.length) 0) _ rfl (HL.out _ _ _).1 (HL.out _ (w1.heap.size + 1) 0).2.1 (HL.out 0 0 _).2.2 H4.out.2 (ip_out _ _ _ _ _ _ _ _ _ _ _ H4.out.1.left.left H4.out.1.left.right H4.out.1.right)).mono ?_
    rintro e w5 ⟨rfl, hg⟩
    have hm5 := H4.out.1.kept hg
    obtain ⟨z0, z1⟩ := one_facts hm5.right
    have H5 := Lib.hid (And.intro hm5 (fun j hj => hg.cell (H4.out.2 j hj) (by simp)))
    have hq : ({ data := (ipHead s d t p i (20 + b.length) 0).toArray } : ByteArray).size ≤ maxLen := by
      have := ipHead_len s d t p i (20 + b.length) 0
      show (ipHead s d t p i (20 + b.length) 0).length ≤ _
      unfold maxLen
      omega
    clear hg H4 hm5
    go_wp2_with fail
    refine (sum_impl _ _ hq).mono ?_
    rintro e w6 ⟨rfl, rfl⟩
    rw [show sum16 ({ data := (ipHead s d t p i (20 + b.length) 0).toArray } : ByteArray).data.toList = ipSum s d t p i (20 + b.length) from rfl]
    have hm6 := ip_store (ipSum s d t p i (20 + b.length)) (by omega) (by omega) H5.out.1
    have hp6 : ∀ j (h : j < (ipParts w.heap.size w1.heap.size (w1.heap.size + 1)).length), (w5.setCell ⟨w1.heap.size + 1, 0, none⟩ (.int .i64 (ipSum s d t p i (20 + b.length)))).cell? ⟨pb, j, none⟩ = some (ipParts w.heap.size w1.heap.size (w1.heap.size + 1))[j].val := by
      intro j hj
      rw [World.cell?_setCell_far _ _ _ _ (show w1.heap.size + 1 ≠ pb by omega)]
      exact H5.out.2 j hj
    have H6 := Lib.hid (And.intro hm6 hp6)
    clear hm6 hp6 H5 hq
    have HT := Lib.hid (show ipL s d t p i b = ipHead s d t p i (20 + b.length) (ipSum s d t p i (20 + b.length)) ++ b from HE.out.2)
    generalize ipSum s d t p i (20 + b.length) = m at *
    go_wp2_with fail
    generalize w5.setCell ⟨w1.heap.size + 1, 0, none⟩ (.int .i64 m) = w7 at *
    have c5 := (ip_facts H6.out.1.left.left).2.2.2.2.2
    have hfl := ipHead_len s d t p i (20 + b.length) m
    have hkl : ¬ 9223372036854775807 < (ipHead s d t p i (20 + b.length) m).length + b.length := by omega
    have hpd : ∀ j (h : j < (ipParts w.heap.size w1.heap.size (w1.heap.size + 1)).length), w7.drew.cell? ⟨pb, j, none⟩ = some (ipParts w.heap.size w1.heap.size (w1.heap.size + 1))[j].val := fun j hj => by
      rw [World.cell?_drew]
      exact H6.out.2 j hj
    have H7 := Lib.hid (And.intro hpd (ip_out w.heap.size w1.heap.size (w1.heap.size + 1) s d t p i (20 + b.length) m (.string ⟨b.toArray⟩) H6.out.1.drew.left.left H6.out.1.drew.left.right H6.out.1.drew.right))
    clear z0 z1 hpd
    go_region_held3 (fun w' => w'.cell? ⟨w.heap.size, 5, none⟩ = some (.string ⟨b.toArray⟩) ∧ w7.grownBy w' none) ((refine ⟨by first | assumption | (simp [*]; done), by first | assumption | exact grownBy_drew | exact grownBy_trans (by assumption) (by assumption)⟩))
      (first
        | (go_at_call 62; refine (put_as (ipHead s d t p i (20 + b.length) m) _ _ (ipParts w.heap.size w1.heap.size (w1.heap.size + 1)) (ipOl s d t p i (20 + b.length) m) _ rfl (HL.out _ _ _).1 (HL.out _ (w1.heap.size + 1) 0).2.1 (HL.out 0 0 _).2.2 H7.out.1 H7.out.2).mono ?_; rintro e w8 ⟨rfl, hg⟩; have q0 := hg.cell (a := ⟨w.heap.size, 5, none⟩) (v := .string ⟨b.toArray⟩) (by assumption) (by simp); have q6 : w7.grownBy w8 none := grownBy_trans grownBy_drew hg))
    go_wp2_with fail
    go_ret
    refine ⟨ret_ba ?_, ?_⟩
    · rw [HT.out, ba_append]
    · first
        | exact grownBy_trans H6.out.1.grown (by assumption)
        | (rename_i hH _; exact grownBy_trans H6.out.1.grown hH.2)
        | (rename_i hH; exact grownBy_trans H6.out.1.grown hH.2)
  · have HE := Lib.hid (show ipL s d t p i b = [] from if_neg hok)
    have HD := Lib.hid (decide_eq_false hok)
    clear hok
    go_enter Try.func34, Try.ntmps34
    go_wp2_with fail
    refine (ip_ok_impl _ _ _ _ _ _ _).mono ?_
    rintro e w1 ⟨rfl, hg⟩
    rw [HD.out]
    have HG := Lib.hid (grownBy_trans (World.grownBy_alloc _ _ _) hg)
    clear hg
    go_wp2_with fail
    go_ret
    exact ⟨ret_s (a := []) HE.out.symm, HG.out⟩

end Go.Proofs.Ytihaamgimakcoaa
