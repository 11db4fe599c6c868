/- What is read of a trace, step by step, as a function of lists; and the reading of its order. -/
import Derived.Test.YtbhbbmocioefnaaBodyS
import Derived.Test.YtbhbbmocioefnaaRdBoth
import Derived.Test.YtbhbbmocioefnaaPks
namespace Go.Proofs.Ytbhbbmocioefnaa
open Go.RowKit

theorem right_iff (t : List UInt8) (big : Bool) (q : Nat) : (sizeOf t big = (q : Int) + 12 ∧ q % 4 = 0 ∧ q ≤ 800 ∧ q + 12 ≤ t.length ∧ numOf ((t.drop (8 + q)).take 4) big = (q : Int) + 12) ↔ Right t big q :=
  ⟨fun h => ⟨h.1, h.2.1, h.2.2.1, h.2.2.2.1, h.2.2.2.2⟩, fun h => ⟨h.size, h.four, h.most, h.here, h.same⟩⟩
instance (t : List UInt8) (big : Bool) (q : Nat) : Decidable (Right t big q) := decidable_of_iff _ (right_iff t big q)
theorem time_iff (t : List UInt8) (a : Nat) (big : Bool) : (a + 8 ≤ t.length ∧ hiOf t a big ≤ 232 ∧ timeOf t a big ≤ 1000000000000) ↔ TimeR t a big :=
  ⟨fun h => ⟨h.1, h.2.1, h.2.2⟩, fun h => ⟨h.here, h.high, h.most⟩⟩
instance (t : List UInt8) (a : Nat) (big : Bool) : Decidable (TimeR t a big) := decidable_of_iff _ (time_iff t a big)
theorem pk_iff (t : List UInt8) (big : Bool) (q : Nat) : (TimeR t 4 big ∧ hiOf t 12 big = (q : Int) ∧ q ≤ 400 ∧ (q : Int) ≤ hiOf t 16 big ∧ 20 + q ≤ t.length) ↔ PkR t big q :=
  ⟨fun h => ⟨h.1, h.2.1, h.2.2.1, h.2.2.2.1, h.2.2.2.2⟩, fun h => ⟨h.time, h.size, h.most, h.whole, h.here⟩⟩
instance (t : List UInt8) (big : Bool) (q : Nat) : Decidable (PkR t big q) := decidable_of_iff _ (pk_iff t big q)

def lenOf (t : List UInt8) (big : Bool) : Nat := (sizeOf t big - 12).toNat
def dataOf (t : List UInt8) (big : Bool) : Nat := (hiOf t 12 big).toNat
theorem right_len {t : List UInt8} {big : Bool} {q : Nat} (h : Right t big q) : lenOf t big = q := by
  have := h.size
  unfold lenOf
  omega
theorem pk_len {t : List UInt8} {big : Bool} {q : Nat} (h : PkR t big q) : dataOf t big = q := by
  have := h.size
  unfold dataOf
  omega

/-- What is read from a place on. -/
def trc (s : List UInt8) (big : Bool) : Nat → Nat → List Pk → List Pk × Int
  | 0, p, _ => ([], p)
  | f + 1, p, out =>
    if s.length ≤ p then (out, -1)
    else if Right (s.drop p) big (lenOf (s.drop p) big) then
      if (numOf ((s.drop p).take 4) big = 168627466) ↔ p = 0 then
        if numOf ((s.drop p).take 4) big = 6 then
          if PkR (((s.drop p).drop 8).take (lenOf (s.drop p) big)) big (dataOf (((s.drop p).drop 8).take (lenOf (s.drop p) big)) big) then
            if out.length = 60 then ([], p)
            else trc s big f (p + (lenOf (s.drop p) big + 12)) (out ++ [(timeOf (((s.drop p).drop 8).take (lenOf (s.drop p) big)) 4 big, ((((s.drop p).drop 8).take (lenOf (s.drop p) big)).drop 20).take (dataOf (((s.drop p).drop 8).take (lenOf (s.drop p) big)) big))])
          else ([], p)
        else trc s big f (p + (lenOf (s.drop p) big + 12)) out
      else ([], p)
    else ([], p)

theorem trc_end (s : List UInt8) (big : Bool) (f p : Nat) (out : List Pk) (h : s.length ≤ p) : trc s big (f + 1) p out = (out, -1) := by rw [trc, if_pos h]
theorem trc_none (s : List UInt8) (big : Bool) (f p : Nat) (out : List Pk) (h : p < s.length) (hN : ∀ q, ¬ Right (s.drop p) big q) : trc s big (f + 1) p out = ([], (p : Int)) := by
  rw [trc, if_neg (by omega), if_neg (hN _)]
theorem trc_kind (s : List UInt8) (big : Bool) (f p q : Nat) (out : List Pk) (h : p < s.length) (hR : Right (s.drop p) big q) (hk : ¬ ((numOf ((s.drop p).take 4) big = 168627466) ↔ p = 0)) : trc s big (f + 1) p out = ([], (p : Int)) := by
  rw [trc, if_neg (by omega), right_len hR, if_pos hR, if_neg hk]
theorem trc_other (s : List UInt8) (big : Bool) (f p q : Nat) (out : List Pk) (h : p < s.length) (hR : Right (s.drop p) big q) (hk : (numOf ((s.drop p).take 4) big = 168627466) ↔ p = 0) (h6 : numOf ((s.drop p).take 4) big ≠ 6) : trc s big (f + 1) p out = trc s big f (p + (q + 12)) out := by
  rw [trc, if_neg (by omega), right_len hR, if_pos hR, if_pos hk, if_neg h6]
theorem trc_bad (s : List UInt8) (big : Bool) (f p q : Nat) (out : List Pk) (h : p < s.length) (hR : Right (s.drop p) big q) (hk : (numOf ((s.drop p).take 4) big = 168627466) ↔ p = 0) (h6 : numOf ((s.drop p).take 4) big = 6) (hN : ∀ r, ¬ PkR (((s.drop p).drop 8).take q) big r) : trc s big (f + 1) p out = ([], (p : Int)) := by
  rw [trc, if_neg (by omega), right_len hR, if_pos hR, if_pos hk, if_pos h6, if_neg (hN _)]
theorem trc_many (s : List UInt8) (big : Bool) (f p q : Nat) (out : List Pk) (h : p < s.length) (hR : Right (s.drop p) big q) (hk : (numOf ((s.drop p).take 4) big = 168627466) ↔ p = 0) (h6 : numOf ((s.drop p).take 4) big = 6) (h60 : out.length = 60) : trc s big (f + 1) p out = ([], (p : Int)) := by
  rw [trc, if_neg (by omega), right_len hR, if_pos hR, if_pos hk, if_pos h6, if_pos h60]
  split <;> rfl
theorem trc_packet (s : List UInt8) (big : Bool) (f p q r : Nat) (out : List Pk) (h : p < s.length) (hR : Right (s.drop p) big q) (hk : (numOf ((s.drop p).take 4) big = 168627466) ↔ p = 0) (h6 : numOf ((s.drop p).take 4) big = 6) (hP : PkR (((s.drop p).drop 8).take q) big r) (h60 : out.length ≠ 60) :
    trc s big (f + 1) p out = trc s big f (p + (q + 12)) (out ++ [(timeOf (((s.drop p).drop 8).take q) 4 big, ((((s.drop p).drop 8).take q).drop 20).take r)]) := by
  rw [trc, if_neg (by omega), right_len hR, if_pos hR, if_pos hk, if_pos h6, pk_len hP, if_pos hP, if_neg h60]

def markOf (s : List UInt8) : List UInt8 := (s.drop 8).take 4
def readT (s : List UInt8) : List Pk × Int :=
  if 28 ≤ s.length ∧ s.length ≤ 40000 then
    if numOf (markOf s) true = 439041101 then trc s true (s.length + 1) 0 []
    else if numOf (markOf s) false = 439041101 then trc s false (s.length + 1) 0 []
    else ([], 0)
  else ([], 0)

theorem ext_from (t : List UInt8) (a : Nat) : (⟨t.toArray⟩ : ByteArray).extract a t.length = ⟨(t.drop a).toArray⟩ := by
  refine ba_of ?_
  rw [Lib.extract_data]
  exact List.take_of_length_le (by simp)

end Go.Proofs.Ytbhbbmocioefnaa
