/- What is read of a segment, as a function of lists. -/
import Derived.Test.YthfhffcimjolgaaTcU
namespace Go.Proofs.Ythfhffcimjolgaa
open Go.RowKit

def fF (s : List UInt8) : Int := getBe (s.take 2)
def fO (s : List UInt8) : Int := getBe ((s.drop 2).take 2)
def fS (s : List UInt8) : Int := getBe ((s.drop 4).take 4)
def fK (s : List UInt8) : Int := getBe ((s.drop 8).take 4)
def fH (s : List UInt8) : Int := getBe ((s.drop 12).take 1)
def fG (s : List UInt8) : Int := getBe ((s.drop 13).take 1)
def fN (s : List UInt8) : Int := getBe ((s.drop 14).take 2)
/-- The length of the head, with its options. -/
def hdL (s : List UInt8) : Nat := (fH s).toNat / 16 * 4
/-- The options. -/
def opL (s : List UInt8) : List UInt8 := (s.drop 20).take (hdL s - 20)
def rdS (s : List UInt8) : Option (List Rg) := optS ((opL s).length + 1) (opL s) []
def rdH (a b : Int) (s : List UInt8) : Prop := s.length ≤ 300 ∧ segSum a b s = 0 ∧ 20 ≤ s.length ∧ 20 ≤ hdL s ∧ hdL s ≤ s.length
instance (a b : Int) (s : List UInt8) : Decidable (rdH a b s) := by unfold rdH; infer_instance
def rdG (g : Int) (s : List UInt8) (l : List Rg) : Prop := tcpOk (fF s) (fO s) (fS s) (fK s) g (fN s) l (s.drop (hdL s))
instance (g : Int) (s : List UInt8) (l : List Rg) : Decidable (rdG g s l) := by unfold rdG; infer_instance
/-- The ranges of the segment that is read, if there is one. -/
def rdT (a b g : Int) (s : List UInt8) : Option (List Rg) := if rdH a b s then (match rdS s with | some l => if rdG g s l then some l else none | none => none) else none
def zeroT : Value := .agg #[.int .i64 0, .int .i64 0, .int .i64 0, .int .i64 0, .int .i64 0, .int .i64 0, .slice none 0 0, .string ⟨#[]⟩]
def TrPost (w : World) (s : List UInt8) (g : Int) (R : Option (List Rg)) (e : Ending) (w' : World) : Prop :=
  match R with
  | some l => ∃ p c, e = .returned (.tuple #[tcpV (fF s) (fO s) (fS s) (fK s) g (fN s) p c l (s.drop (hdL s)), .bool true]) ∧ RgAt w' p l ∧ w.grownBy w' none
  | none => e = .returned (.tuple #[zeroT, .bool false]) ∧ w.grownBy w' none
theorem rd_no {a b g : Int} {s : List UInt8} (h : ¬ rdH a b s) : rdT a b g s = none := by unfold rdT; rw [if_neg h]
theorem rd_opt {a b g : Int} {s : List UInt8} (h : rdS s = none) : rdT a b g s = none := by unfold rdT; rw [h]; simp
theorem rd_bad {a b g : Int} {s : List UInt8} {l : List Rg} (h : rdS s = some l) (h2 : ¬ rdG g s l) : rdT a b g s = none := by unfold rdT; rw [h]; simp [h2]
theorem rd_yes {a b g : Int} {s : List UInt8} {l : List Rg} (h : rdH a b s) (h1 : rdS s = some l) (h2 : rdG g s l) : rdT a b g s = some l := by unfold rdT; rw [if_pos h, h1]; simp [h2]
theorem gets_if_num2 (a : Addr) (sz : Int) (ps : List Part) (l : List UInt8) : getsL (.num a sz :: ps) l = if sz.toNat ≤ l.length then getsL ps (l.drop sz.toNat) else none := by
  split
  · exact gets_num a sz ps l (by assumption)
  · exact gets_short _ _ _ (by assumption)
theorem gets_tcp (H : Nat) (l : List UInt8) : getsL (tcpParts H) l = if 20 ≤ l.length then some (l.drop 20) else none := by
  unfold tcpParts
  rw [gets_if_num2, gets_if_num2, gets_if_num2, gets_if_num2, gets_if_num2, gets_if_num2, gets_if_num2, gets_if_num2, gets_if_num2, getsL]
  simp only [List.drop_drop, List.length_drop, show (4 : Int).toNat = 4 from rfl, show (2 : Int).toNat = 2 from rfl, show (1 : Int).toNat = 1 from rfl, Nat.reduceAdd]
  by_cases h : 20 ≤ l.length
  · rw [if_pos (by omega), if_pos (by omega), if_pos (by omega), if_pos (by omega), if_pos (by omega), if_pos (by omega), if_pos (by omega), if_pos (by omega), if_pos (by omega), if_pos h]
  · rw [if_neg h]
    repeat' split
    all_goals first
      | rfl
      | (exfalso; omega)
theorem tcp_sizes (H : Nat) : (tcpParts H).length ≤ 100 ∧ (∀ p ∈ tcpParts H, 0 ≤ p.szI ∧ p.szI ≤ 1000) := by simp [tcpParts, Part.szI]
theorem tcp_read (H : Nat) (l : List UInt8) (f o s k g n : Int) (a d : Value) (h m u : Int) : ((headCells H f o s k g n a d h m u).map fun x => (x.1, updL (tcpParts H) l x.1 x.2)) = headCells H (fF l) (fO l) (fS l) (fK l) (fG l) (fN l) a d (fH l) (getBe ((l.drop 16).take 2)) (getBe ((l.drop 18).take 2)) := by
  simp [headCells, tcpParts, updL, fF, fO, fS, fK, fG, fN, fH]
theorem tcp_places (H : Nat) (f o s k g n : Int) (a d : Value) (h m u : Int) : ∀ q ∈ tcpParts H, ∀ p, q.place = some p → ∃ v, (p, v) ∈ headCells H f o s k g n a d h m u := by
  intro q hq p hp
  simp only [tcpParts, List.mem_cons, List.not_mem_nil, or_false] at hq
  rcases hq with rfl | rfl | rfl | rfl | rfl | rfl | rfl | rfl | rfl
  all_goals simp only [Part.place, Option.some.injEq] at hp
  · exact ⟨.int .i64 f, by subst hp; simp [headCells]⟩
  · exact ⟨.int .i64 o, by subst hp; simp [headCells]⟩
  · exact ⟨.int .i64 s, by subst hp; simp [headCells]⟩
  · exact ⟨.int .i64 k, by subst hp; simp [headCells]⟩
  · exact ⟨.int .i64 h, by subst hp; simp [headCells]⟩
  · exact ⟨.int .i64 g, by subst hp; simp [headCells]⟩
  · exact ⟨.int .i64 n, by subst hp; simp [headCells]⟩
  · exact ⟨.int .i64 m, by subst hp; simp [headCells]⟩
  · exact ⟨.int .i64 u, by subst hp; simp [headCells]⟩
theorem fH_bd (s : List UInt8) (h : 20 ≤ s.length) : 0 ≤ fH s ∧ fH s < 256 := by
  have hl : ((s.drop 12).take 1).length = 1 := by simp; omega
  have e := getBe_in ((s.drop 12).take 1) (by omega)
  have h0 := getN_nonneg ((s.drop 12).take 1) ((s.drop 12).take 1).length
  have h1 := getN_lt ((s.drop 12).take 1) ((s.drop 12).take 1).length
  rw [hl] at h0 h1 e
  simp at h1
  unfold fH
  rw [e]
  exact ⟨h0, by omega⟩

end Go.Proofs.Ythfhffcimjolgaa
