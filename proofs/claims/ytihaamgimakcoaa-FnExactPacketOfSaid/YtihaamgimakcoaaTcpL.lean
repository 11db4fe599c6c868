/- The laws' own helpers of segments: their size, a copy of them, whether two are the same. -/
import Derived.Test.YtihaamgimakcoaaRgs
namespace Go.Proofs.Ytihaamgimakcoaa
open Go.RowKit

def tcpCells (B : Nat) (f o s k g n a b : Value) : List (Addr × Value) := [(⟨B, 0, none⟩, f), (⟨B, 1, none⟩, o), (⟨B, 2, none⟩, s), (⟨B, 3, none⟩, k), (⟨B, 4, none⟩, g), (⟨B, 5, none⟩, n), (⟨B, 6, none⟩, a), (⟨B, 7, none⟩, b)]
theorem tcp_new (w : World) (f o s k g n a b : Value) (T : TypeId) : Mine w (tcpCells w.heap.size f o s k g n a b) (w.alloc (.cells #[f, o, s, k, g, n, a, b] T)) := by
  refine ⟨World.grownBy_alloc _ _ _, ?_⟩
  intro x hx
  simp only [tcpCells, List.mem_cons, List.not_mem_nil, or_false] at hx
  rcases hx with rfl | rfl | rfl | rfl | rfl | rfl | rfl | rfl <;> exact ⟨by go_simp, by go_simp, by simp, rfl⟩
theorem tcp_facts {w w' : World} {B : Nat} {f o s k g n a b : Value} (hm : Mine w (tcpCells B f o s k g n a b) w') : w'.cell? ⟨B, 0, none⟩ = some f ∧ w'.cell? ⟨B, 1, none⟩ = some o ∧ w'.cell? ⟨B, 2, none⟩ = some s ∧ w'.cell? ⟨B, 3, none⟩ = some k ∧ w'.cell? ⟨B, 4, none⟩ = some g ∧ w'.cell? ⟨B, 5, none⟩ = some n ∧ w'.cell? ⟨B, 6, none⟩ = some a ∧ w'.cell? ⟨B, 7, none⟩ = some b :=
  ⟨hm.cell _ _ (by simp [tcpCells]), hm.cell _ _ (by simp [tcpCells]), hm.cell _ _ (by simp [tcpCells]), hm.cell _ _ (by simp [tcpCells]), hm.cell _ _ (by simp [tcpCells]), hm.cell _ _ (by simp [tcpCells]), hm.cell _ _ (by simp [tcpCells]), hm.cell _ _ (by simp [tcpCells])⟩
theorem tcp_frees {w w' : World} {B : Nat} {f o s k g n a b : Value} (hm : Mine w (tcpCells B f o s k g n a b) w') : w'.frozen? ⟨B, 0, none⟩ = false ∧ w'.frozen? ⟨B, 1, none⟩ = false ∧ w'.frozen? ⟨B, 2, none⟩ = false ∧ w'.frozen? ⟨B, 3, none⟩ = false ∧ w'.frozen? ⟨B, 4, none⟩ = false ∧ w'.frozen? ⟨B, 5, none⟩ = false ∧ w'.frozen? ⟨B, 6, none⟩ = false ∧ w'.frozen? ⟨B, 7, none⟩ = false :=
  ⟨hm.free ⟨B, 0, none⟩ f (by simp [tcpCells]), hm.free ⟨B, 1, none⟩ o (by simp [tcpCells]), hm.free ⟨B, 2, none⟩ s (by simp [tcpCells]), hm.free ⟨B, 3, none⟩ k (by simp [tcpCells]), hm.free ⟨B, 4, none⟩ g (by simp [tcpCells]), hm.free ⟨B, 5, none⟩ n (by simp [tcpCells]), hm.free ⟨B, 6, none⟩ a (by simp [tcpCells]), hm.free ⟨B, 7, none⟩ b (by simp [tcpCells])⟩

set_option maxRecDepth 100000 in
set_option maxHeartbeats 1000000 in
theorem sz_tcp (f o s k g n : Int) (a : Option Addr) (c : Nat) (l : List Rg) (b : List UInt8) (w : World) (hl : l.length ≤ 9223372036854775807) (hb : b.length ≤ 9223372036854775807) : Calls Try.prog 7 #[tcpV f o s k g n a c l b, .int .i64 1048576] w fun e w' => (∃ r : Int, e = .returned (.int .i64 r) ∧ (0 ≤ r → l.length ≤ 1048576)) ∧ w.grownBy w' none := by
  by_cases h1 : (l.length : Int) ≤ 1048576
  · by_cases h2 : (l.length : Int) + b.length ≤ 1048576
    all_goals
      go_enter Try.func7, Try.ntmps7
      go_wp2_with fail
      refine (sz_ranges _ _ _ _ _ (by omega) rfl).mono ?_
      rintro e w1 ⟨rfl, rfl⟩
      rw [if_pos h1]
      go_wp2_with fail
      go_ret
      exact ⟨⟨_, rfl, fun _ => by omega⟩, World.grownBy_alloc _ _ _⟩
  · go_enter Try.func7, Try.ntmps7
    go_wp2_with fail
    refine (sz_ranges _ _ _ _ _ (by omega) rfl).mono ?_
    rintro e w1 ⟨rfl, rfl⟩
    rw [if_neg (by omega : ¬ (l.length : Int) ≤ 1048576)]
    go_wp2_with fail
    go_ret
    exact ⟨⟨_, rfl, fun h => by omega⟩, World.grownBy_alloc _ _ _⟩

def ToTPost (w : World) (f o s k g n : Int) (l : List Rg) (b : List UInt8) (e : Ending) (w' : World) : Prop :=
  ∃ q : Nat, e = .returned (tcpV f o s k g n (some ⟨q, 0, none⟩) l.length l b) ∧ w.grownBy w' none ∧ RgAt w' (some ⟨q, 0, none⟩) l

theorem RgAt.set {w : World} {q B o : Nat} {v : Value} {l : List Rg} (h : RgAt w (some ⟨q, 0, none⟩) l) (hne : B ≠ q) : RgAt (w.setCell ⟨B, o, none⟩ v) (some ⟨q, 0, none⟩) l := by
  rcases h with h | ⟨b, off, ha, hb, hc⟩
  · exact .inl h
  · simp only [Option.some.injEq, Addr.mk.injEq] at ha
    obtain ⟨rfl, rfl, _⟩ := ha
    refine .inr ⟨q, 0, rfl, Nat.lt_of_lt_of_le hb (grownBy_set w B o v).size, fun i hi => ?_⟩
    rw [World.cell?_setCell_far _ _ _ _ hne, World.cell?_setCell_far _ _ _ _ hne]
    exact hc i hi
theorem tcp_three (w : World) (f o s k g n a b z y : Value) (T U V : TypeId) : Mine w (tcpCells w.heap.size f o s k g n a b ++ tcpCells (w.heap.size + 1) (.int .i64 0) (.int .i64 0) (.int .i64 0) (.int .i64 0) (.int .i64 0) (.int .i64 0) z y ++ tcpCells (w.heap.size + 1 + 1) f o s k g n z y)
    (((w.alloc (.cells #[f, o, s, k, g, n, a, b] T)).alloc (.cells #[.int .i64 0, .int .i64 0, .int .i64 0, .int .i64 0, .int .i64 0, .int .i64 0, z, y] U)).alloc (.cells #[f, o, s, k, g, n, z, y] V)) := by
  have h1 := tcp_new w f o s k g n a b T
  have e1 := alloc_size w (.cells #[f, o, s, k, g, n, a, b] T)
  generalize w.alloc (.cells #[f, o, s, k, g, n, a, b] T) = w1 at *
  have h2 := tcp_new w1 (.int .i64 0) (.int .i64 0) (.int .i64 0) (.int .i64 0) (.int .i64 0) (.int .i64 0) z y U
  have e2 := alloc_size w1 (.cells #[.int .i64 0, .int .i64 0, .int .i64 0, .int .i64 0, .int .i64 0, .int .i64 0, z, y] U)
  generalize w1.alloc (.cells #[.int .i64 0, .int .i64 0, .int .i64 0, .int .i64 0, .int .i64 0, .int .i64 0, z, y] U) = w2 at *
  have h3 := tcp_new w2 f o s k g n z y V
  have h2b := h2.base h1.grown
  have h3b := h3.base (grownBy_trans h1.grown h2.grown)
  rw [e1] at h2b
  rw [e2, e1] at h3b
  have k3 := h3.grown
  have j1 := (h1.kept h2.grown).kept k3
  have j2 := h2b.kept k3
  refine ⟨j1.grown, fun x hx => ?_⟩
  rcases List.mem_append.mp hx with hx | hx
  · rcases List.mem_append.mp hx with hx | hx
    · exact j1.all x hx
    · exact j2.all x hx
  · exact h3b.all x hx
theorem Mine.left {w a : World} {cs ds : List (Addr × Value)} (h : Mine w (cs ++ ds) a) : Mine w cs a := ⟨h.grown, fun x hx => h.all x (List.mem_append_left _ hx)⟩
theorem Mine.right {w a : World} {cs ds : List (Addr × Value)} (h : Mine w (cs ++ ds) a) : Mine w ds a := ⟨h.grown, fun x hx => h.all x (List.mem_append_right _ hx)⟩
theorem res8_grown {w a : World} {R : Nat} (f o s k g n c b : Value) (h : w.grownBy a none) (hR : w.heap.size ≤ R) : w.grownBy ((((((((a.setCell ⟨R, 0, none⟩ f).setCell ⟨R, 1, none⟩ o).setCell ⟨R, 2, none⟩ s).setCell ⟨R, 3, none⟩ k).setCell ⟨R, 4, none⟩ g).setCell ⟨R, 5, none⟩ n).setCell ⟨R, 6, none⟩ c).setCell ⟨R, 7, none⟩ b) none :=
  grownBy_new h (grownBy_trans (grownBy_trans (grownBy_trans (grownBy_trans (grownBy_trans (grownBy_trans (grownBy_trans (grownBy_set _ _ _ _) (grownBy_set _ _ _ _)) (grownBy_set _ _ _ _)) (grownBy_set _ _ _ _)) (grownBy_set _ _ _ _)) (grownBy_set _ _ _ _)) (grownBy_set _ _ _ _)) (grownBy_set _ _ _ _)) hR

set_option maxRecDepth 100000 in
set_option maxHeartbeats 1000000 in
theorem to_tcp (f o s k g n : Int) (a : Option Addr) (c : Nat) (l : List Rg) (b : List UInt8) (w : World) (h : RgAt w a l) (hl : l.length ≤ 1048576) : Calls Try.prog 10 #[tcpV f o s k g n a c l b] w (ToTPost w f o s k g n l b) := by
  have h3 := tcp_three w (.int .i64 f) (.int .i64 o) (.int .i64 s) (.int .i64 k) (.int .i64 g) (.int .i64 n) (.slice a l.length c) (.string ⟨b.toArray⟩) (.slice none 0 0) (.string ⟨#[]⟩) 26 36 36
  have H := Lib.hid (And.intro h3 (h.kept h3.grown))
  have hz : (((w.alloc (.cells #[.int .i64 f, .int .i64 o, .int .i64 s, .int .i64 k, .int .i64 g, .int .i64 n, .slice a l.length c, .string ⟨b.toArray⟩] 26)).alloc (.cells #[.int .i64 0, .int .i64 0, .int .i64 0, .int .i64 0, .int .i64 0, .int .i64 0, .slice none 0 0, .string ⟨#[]⟩] 36)).alloc (.cells #[.int .i64 f, .int .i64 o, .int .i64 s, .int .i64 k, .int .i64 g, .int .i64 n, .slice none 0 0, .string ⟨#[]⟩] 36)).heap.size = w.heap.size + 1 + 1 + 1 := by rw [alloc_size, alloc_size, alloc_size]
  have HZ := Lib.hid hz
  clear h h3 hz
  go_enter Try.func10, Try.ntmps10
  go_wp2_with fail
  refine (to_ranges _ _ _ _ H.out.2 hl).mono ?_
  rintro e w4 ⟨rfl, hg, hr⟩
  have h4 := H.out.1.kept hg
  rw [HZ.out] at hr ⊢
  obtain ⟨a0, a1, a2, a3, a4, a5, a6, a7⟩ := tcp_facts h4.left.left
  obtain ⟨r0, r1, r2, r3, r4, r5, r6, r7⟩ := tcp_facts h4.left.right
  obtain ⟨z0, z1, z2, z3, z4, z5, z6, z7⟩ := tcp_frees h4.left.right
  obtain ⟨o0, o1, o2, o3, o4, o5, o6, o7⟩ := tcp_facts h4.right
  obtain ⟨y0, y1, y2, y3, y4, y5, y6, y7⟩ := tcp_frees h4.right
  have HG := Lib.hid (And.intro h4.grown hr)
  clear hg hr h4
  go_wp2_with fail
  have hgr := res8_grown (R := w.heap.size + 1) (.int .i64 f) (.int .i64 o) (.int .i64 s) (.int .i64 k) (.int .i64 g) (.int .i64 n) (.slice (some ⟨w.heap.size + 1 + 1 + 1, 0, none⟩) l.length l.length) (.string ⟨b.toArray⟩) (grownBy_new HG.out.1 (grownBy_trans (grownBy_set _ (w.heap.size + 1 + 1) 6 (.slice (some ⟨w.heap.size + 1 + 1 + 1, 0, none⟩) l.length l.length)) (grownBy_set _ _ 7 (.string ⟨b.toArray⟩))) (by omega)) (by omega)
  refine bodyPost_ret (v := tcpV f o s k g n (some ⟨w.heap.size + 1 + 1 + 1, 0, none⟩) l.length l b) ?_ rfl ⟨_, rfl, hgr, ?_⟩
  · simp [results, Try.results10, go_sem, r0, r1, r2, r3, r4, r5, r6, r7]
  · exact ((((((((((HG.out.2.set (by omega)).set (by omega)).set (by omega)).set (by omega)).set (by omega)).set (by omega)).set (by omega)).set (by omega)).set (by omega)).set (by omega))

set_option maxRecDepth 100000 in
set_option maxHeartbeats 1000000 in
theorem eq_tcp (f o s k g n : Int) (a d : Option Addr) (c e : Nat) (l : List Rg) (b : List UInt8) (w : World) (h : RgAt w a l) (h' : RgAt w d l) (hl : l.length ≤ 1048576) : Calls Try.prog 13 #[tcpV f o s k g n a c l b, tcpV f o s k g n d e l b] w fun e w' => e = .returned (.bool true) ∧ w.grownBy w' none := by
  have hA := grownBy_trans (World.grownBy_alloc w (.cells #[.int .i64 f, .int .i64 o, .int .i64 s, .int .i64 k, .int .i64 g, .int .i64 n, .slice a l.length c, .string ⟨b.toArray⟩] 36) none) (World.grownBy_alloc _ (.cells #[.int .i64 f, .int .i64 o, .int .i64 s, .int .i64 k, .int .i64 g, .int .i64 n, .slice d l.length e, .string ⟨b.toArray⟩] 36) none)
  have H := Lib.hid (And.intro (h.kept hA) (And.intro (h'.kept hA) hA))
  clear h h' hA
  go_enter Try.func13, Try.ntmps13
  go_wp2_with fail
  refine (eq_ranges _ _ _ _ _ _ H.out.1 H.out.2.1 hl).mono ?_
  rintro e w4 ⟨rfl, hg⟩
  have a7 := hg.cell (a := ⟨w.heap.size, 7, none⟩) (v := .string ⟨b.toArray⟩) (by go_simp) (by simp)
  have b7 := hg.cell (a := ⟨w.heap.size + 1, 7, none⟩) (v := .string ⟨b.toArray⟩) (by go_simp) (by simp)
  have HG := Lib.hid (grownBy_trans H.out.2.2 hg)
  clear hg
  go_wp2_with fail
  go_ret
  exact ⟨rfl, HG.out⟩

end Go.Proofs.Ytihaamgimakcoaa
