/- The laws' own helpers of segments: their size, a copy of them, whether two are the same. -/
import Derived.Test.YthfhffcimjolgaaRgs
namespace Go.Proofs.Ythfhffcimjolgaa
open Go.RowKit

def tcpCells (B : Nat) (f o s k g n a b : Value) : List (Addr × Value) := [(⟨B, 0, none⟩, f), (⟨B, 1, none⟩, o), (⟨B, 2, none⟩, s), (⟨B, 3, none⟩, k), (⟨B, 4, none⟩, g), (⟨B, 5, none⟩, n), (⟨B, 6, none⟩, a), (⟨B, 7, none⟩, b)]
theorem tcp_new (w : World) (f o s k g n a b : Value) (T : TypeId) : Mine w (tcpCells w.heap.size f o s k g n a b) (w.alloc (.cells #[f, o, s, k, g, n, a, b] T)) := by
  refine ⟨World.grownBy_alloc _ _ _, ?_⟩
  intro x hx
  simp only [tcpCells, List.mem_cons, List.not_mem_nil, or_false] at hx
  rcases hx with rfl | rfl | rfl | rfl | rfl | rfl | rfl | rfl <;> exact ⟨by go_simp, by go_simp, by simp, rfl⟩
theorem tcp_facts {w w' : World} {B : Nat} {f o s k g n a b : Value} (hm : Mine w (tcpCells B f o s k g n a b) w') : w'.cell? ⟨B, 0, none⟩ = some f ∧ w'.cell? ⟨B, 1, none⟩ = some o ∧ w'.cell? ⟨B, 2, none⟩ = some s ∧ w'.cell? ⟨B, 3, none⟩ = some k ∧ w'.cell? ⟨B, 4, none⟩ = some g ∧ w'.cell? ⟨B, 5, none⟩ = some n ∧ w'.cell? ⟨B, 6, none⟩ = some a ∧ w'.cell? ⟨B, 7, none⟩ = some b :=
  ⟨hm.cell _ _ (by simp [tcpCells]), hm.cell _ _ (by simp [tcpCells]), hm.cell _ _ (by simp [tcpCells]), hm.cell _ _ (by simp [tcpCells]), hm.cell _ _ (by simp [tcpCells]), hm.cell _ _ (by simp [tcpCells]), hm.cell _ _ (by simp [tcpCells]), hm.cell _ _ (by simp [tcpCells])⟩
theorem tcp_frees {w w' : World} {B : Nat} {f o s k g n a b : Value} (hm : Mine w (tcpCells B f o s k g n a b) w') : w'.frozen? ⟨B, 0, none⟩ = false ∧ w'.frozen? ⟨B, 1, none⟩ = false ∧ w'.frozen? ⟨B, 2, none⟩ = false ∧ w'.frozen? ⟨B, 3, none⟩ = false ∧ w'.frozen? ⟨B, 4, none⟩ = false ∧ w'.frozen? ⟨B, 5, none⟩ = false ∧ w'.frozen? ⟨B, 6, none⟩ = false ∧ w'.frozen? ⟨B, 7, none⟩ = false :=
  ⟨hm.free ⟨B, 0, none⟩ f (by simp [tcpCells]), hm.free ⟨B, 1, none⟩ o (by simp [tcpCells]), hm.free ⟨B, 2, none⟩ s (by simp [tcpCells]), hm.free ⟨B, 3, none⟩ k (by simp [tcpCells]), hm.free ⟨B, 4, none⟩ g (by simp [tcpCells]), hm.free ⟨B, 5, none⟩ n (by simp [tcpCells]), hm.free ⟨B, 6, none⟩ a (by simp [tcpCells]), hm.free ⟨B, 7, none⟩ b (by simp [tcpCells])⟩

def ToTPost (w : World) (f o s k g n : Int) (l : List Rg) (b : List UInt8) (e : Ending) (w' : World) : Prop :=
  ∃ q : Nat, e = .returned (tcpV f o s k g n (some ⟨q, 0, none⟩) l.length l b) ∧ w.grownBy w' none ∧ RgAt w' (some ⟨q, 0, none⟩) l

theorem RgAt.set {w : World} {q B o : Nat} {v : Value} {l : List Rg} (h : RgAt w (some ⟨q, 0, none⟩) l) (hne : B ≠ q) : RgAt (w.setCell ⟨B, o, none⟩ v) (some ⟨q, 0, none⟩) l := by
  rcases h with h | ⟨b, off, ha, hb, hc⟩
  · exact .inl h
  · simp only [Option.some.injEq, Addr.mk.injEq] at ha
    obtain ⟨rfl, rfl, _⟩ := ha
    refine .inr ⟨q, 0, rfl, Nat.lt_of_lt_of_le hb (grownBy_set w B o v).size, fun i hi => ?_⟩
    rw [World.cell?_setCell_far _ _ _ _ hne, World.cell?_setCell_far _ _ _ _ hne]
    exact hc i hi
theorem tcp_three (w : World) (f o s k g n a b z y : Value) (T U V : TypeId) : Mine w (tcpCells w.heap.size f o s k g n a b ++ tcpCells (w.heap.size + 1) (.int .i64 0) (.int .i64 0) (.int .i64 0) (.int .i64 0) (.int .i64 0) (.int .i64 0) z y ++ tcpCells (w.heap.size + 1 + 1) f o s k g n z y)
    (((w.alloc (.cells #[f, o, s, k, g, n, a, b] T)).alloc (.cells #[.int .i64 0, .int .i64 0, .int .i64 0, .int .i64 0, .int .i64 0, .int .i64 0, z, y] U)).alloc (.cells #[f, o, s, k, g, n, z, y] V)) := by
  have h1 := tcp_new w f o s k g n a b T
  have e1 := alloc_size w (.cells #[f, o, s, k, g, n, a, b] T)
  generalize w.alloc (.cells #[f, o, s, k, g, n, a, b] T) = w1 at *
  have h2 := tcp_new w1 (.int .i64 0) (.int .i64 0) (.int .i64 0) (.int .i64 0) (.int .i64 0) (.int .i64 0) z y U
  have e2 := alloc_size w1 (.cells #[.int .i64 0, .int .i64 0, .int .i64 0, .int .i64 0, .int .i64 0, .int .i64 0, z, y] U)
  generalize w1.alloc (.cells #[.int .i64 0, .int .i64 0, .int .i64 0, .int .i64 0, .int .i64 0, .int .i64 0, z, y] U) = w2 at *
  have h3 := tcp_new w2 f o s k g n z y V
  have h2b := h2.base h1.grown
  have h3b := h3.base (grownBy_trans h1.grown h2.grown)
  rw [e1] at h2b
  rw [e2, e1] at h3b
  have k3 := h3.grown
  have j1 := (h1.kept h2.grown).kept k3
  have j2 := h2b.kept k3
  refine ⟨j1.grown, fun x hx => ?_⟩
  rcases List.mem_append.mp hx with hx | hx
  · rcases List.mem_append.mp hx with hx | hx
    · exact j1.all x hx
    · exact j2.all x hx
  · exact h3b.all x hx
theorem Mine.left {w a : World} {cs ds : List (Addr × Value)} (h : Mine w (cs ++ ds) a) : Mine w cs a := ⟨h.grown, fun x hx => h.all x (List.mem_append_left _ hx)⟩
theorem Mine.right {w a : World} {cs ds : List (Addr × Value)} (h : Mine w (cs ++ ds) a) : Mine w ds a := ⟨h.grown, fun x hx => h.all x (List.mem_append_right _ hx)⟩
theorem res8_grown {w a : World} {R : Nat} (f o s k g n c b : Value) (h : w.grownBy a none) (hR : w.heap.size ≤ R) : w.grownBy ((((((((a.setCell ⟨R, 0, none⟩ f).setCell ⟨R, 1, none⟩ o).setCell ⟨R, 2, none⟩ s).setCell ⟨R, 3, none⟩ k).setCell ⟨R, 4, none⟩ g).setCell ⟨R, 5, none⟩ n).setCell ⟨R, 6, none⟩ c).setCell ⟨R, 7, none⟩ b) none :=
  grownBy_new h (grownBy_trans (grownBy_trans (grownBy_trans (grownBy_trans (grownBy_trans (grownBy_trans (grownBy_trans (grownBy_set _ _ _ _) (grownBy_set _ _ _ _)) (grownBy_set _ _ _ _)) (grownBy_set _ _ _ _)) (grownBy_set _ _ _ _)) (grownBy_set _ _ _ _)) (grownBy_set _ _ _ _)) (grownBy_set _ _ _ _)) hR

end Go.Proofs.Ythfhffcimjolgaa
