/- What is read of a packet, as a function of lists. -/
import Derived.Test.YtcbaenndkljlpaaIpS
namespace Go.Proofs.Ytcbaenndkljlpaa
open Go.RowKit

structure Ipk where
  s : Int
  d : Int
  t : Int
  p : Int
  i : Int
  b : List UInt8
abbrev Ipk.val (x : Ipk) : Value := ipV x.s x.d x.t x.p x.i x.b
def Ipk.ok (x : Ipk) : Prop := ipOk x.s x.d x.t x.p x.i x.b
instance (x : Ipk) : Decidable x.ok := by unfold Ipk.ok; infer_instance
def Ipk.bytes (x : Ipk) : List UInt8 := ipL x.s x.d x.t x.p x.i x.b
def zeroI : Ipk := ⟨0, 0, 0, 0, 0, []⟩
def sizeIp (l : List UInt8) : Int := getBe ((l.drop 2).take 2)
def ipAt (l : List UInt8) : Ipk := ⟨getBe ((l.drop 12).take 4), getBe ((l.drop 16).take 4), getBe ((l.drop 8).take 1), getBe ((l.drop 9).take 1), getBe ((l.drop 4).take 2), (l.drop 20).take ((sizeIp l).toNat - 20)⟩
def ipGood (l : List UInt8) : Prop := 20 ≤ l.length ∧ 20 ≤ sizeIp l ∧ sizeIp l ≤ l.length ∧ (ipAt l).bytes = l.take (sizeIp l).toNat
instance (l : List UInt8) : Decidable (ipGood l) := by unfold ipGood; infer_instance
def ipOut (l : List UInt8) : Ipk := if ipGood l then ipAt l else zeroI
def IpPost (w : World) (l : List UInt8) (e : Ending) (w' : World) : Prop := e = .returned (.tuple #[(ipOut l).val, .bool (decide (ipGood l))]) ∧ w.grownBy w' none
theorem post_ip {w w' : World} {l : List UInt8} (h : ipGood l) (hg : w.grownBy w' none) : IpPost w l (.returned (.tuple #[(ipAt l).val, .bool true])) w' := ⟨by rw [ipOut, if_pos h, decide_eq_true h], hg⟩
theorem post_noip {w w' : World} {l : List UInt8} (h : ¬ ipGood l) (hg : w.grownBy w' none) : IpPost w l (.returned (.tuple #[zeroI.val, .bool false])) w' := ⟨by rw [ipOut, if_neg h, decide_eq_false h], hg⟩

theorem len2 (n : Int) (h0 : 0 ≤ n) (h1 : n < 65536) : (putL n 2).length = 2 := putL_len n 2 (put2 h0 h1)
theorem ip_ok_bytes {x : Ipk} (h : x.bytes ≠ []) : x.ok ∧ x.bytes = ipT x.s x.d x.t x.p x.i x.b := by
  unfold Ipk.bytes ipL at h ⊢
  split at h
  · rename_i hk
    exact ⟨hk, if_pos hk⟩
  · exact absurd rfl h
theorem four_lists (x y z u r : List UInt8) (hx : x.length = 2) (hy : y.length = 2) (hz : z.length = 2) (hu : u.length = 2) : (x ++ (y ++ (z ++ (u ++ r)))).take 2 = x ∧ ((x ++ (y ++ (z ++ (u ++ r)))).drop 2).take 2 = y ∧ ((x ++ (y ++ (z ++ (u ++ r)))).drop 6).take 2 = u := by
  have a1 : (x ++ (y ++ (z ++ (u ++ r)))).drop 2 = y ++ (z ++ (u ++ r)) := List.drop_left' hx
  have a2 : (x ++ (y ++ (z ++ (u ++ r)))).drop 6 = u ++ r := by
    have : (x ++ (y ++ (z ++ (u ++ r)))) = (x ++ y ++ z) ++ (u ++ r) := by simp
    rw [this]
    exact List.drop_left' (by simp; omega)
  rw [a1, a2]
  exact ⟨List.take_left' hx, List.take_left' hy, List.take_left' hu⟩
/-- The first eight bytes of a right packet. -/
theorem ip_start {s d t p i : Int} {b : List UInt8} (h : ipOk s d t p i b) : (ipT s d t p i b).take 2 = putL 17664 2 ∧ ((ipT s d t p i b).drop 2).take 2 = putL (20 + b.length) 2 ∧ ((ipT s d t p i b).drop 6).take 2 = putL 16384 2 := by
  obtain ⟨a1, a2, a3, a4, a5, a6, a7, a8, a9, a10, a11⟩ := h
  have e1 : (putL 17664 2).length = 2 := len2 17664 (by omega) (by omega)
  have e2 := len2 (20 + (b.length : Int)) (by omega) (by omega)
  have e3 := len2 i (by omega) (by omega)
  have e4 : (putL 16384 2).length = 2 := len2 16384 (by omega) (by omega)
  have e : ipT s d t p i b = putL 17664 2 ++ (putL (20 + (b.length : Int)) 2 ++ (putL i 2 ++ (putL 16384 2 ++ (putL t 1 ++ (putL p 1 ++ (putL (ipSum s d t p i (20 + b.length)) 2 ++ (putL s 4 ++ (putL d 4 ++ b)))))))) := by
    unfold ipT ipHead ipOl
    simp only [List.flatten_cons, List.flatten_nil, List.append_nil, List.append_assoc]
  rw [e]
  exact four_lists _ _ _ _ _ e1 e2 e3 e4
theorem take_mid (l : List UInt8) (n a k : Nat) (h : a + k ≤ n) : ((l.take n).drop a).take k = (l.drop a).take k := by
  rw [List.drop_take, List.take_take, Nat.min_eq_left (by omega)]
theorem good_start {l : List UInt8} (h : ipGood l) : getBe (l.take 2) = 17664 ∧ getBe ((l.drop 6).take 2) = 16384 := by
  obtain ⟨h1, h2, h3, h4⟩ := h
  have hne : (ipAt l).bytes ≠ [] := by
    rw [h4]
    intro h5
    have h6 := congrArg List.length h5
    rw [List.length_take, Nat.min_eq_left (by omega), List.length_nil] at h6
    omega
  obtain ⟨hk, he⟩ := ip_ok_bytes hne
  rw [he] at h4
  have hs := ip_start hk
  rw [h4] at hs
  have c1 : (l.take (sizeIp l).toNat).take 2 = l.take 2 := by rw [List.take_take, Nat.min_eq_left (by omega)]
  rw [c1, take_mid _ _ _ _ (by omega), take_mid _ _ _ _ (by omega)] at hs
  rw [hs.1, hs.2.2]
  exact ⟨get_put 17664 2 (put2 (by omega) (by omega)), get_put 16384 2 (put2 (by omega) (by omega))⟩

theorem getBe2 (l : List UInt8) (h : l.length = 2) : 0 ≤ getBe l ∧ getBe l < 65536 ∧ putL (getBe l) 2 = l := by
  have e := getBe_in l (by omega)
  have h0 := getN_nonneg l l.length
  have h1 := getN_lt l l.length
  rw [h] at h0 h1 e
  simp at h1
  have hp := put_get l (by rw [e]; exact h0)
  rw [h] at hp
  exact ⟨by rw [e]; exact h0, by rw [e]; exact h1, hp⟩
theorem mid_len (l : List UInt8) (a n : Nat) (h : a + n ≤ l.length) : ((l.drop a).take n).length = n := by simp; omega
theorem ba_list (m : List UInt8) : ({ data := m.toArray } : ByteArray).toList = m := by simp
theorem good_iff (l : List UInt8) (k m : Nat) (h20 : 20 ≤ l.length) (hk : sizeIp l = (k : Int)) (hm : k = m + 20) (hl : k ≤ l.length) :
    ipAt l = ⟨getBe ((l.drop 12).take 4), getBe ((l.drop 16).take 4), getBe ((l.drop 8).take 1), getBe ((l.drop 9).take 1), getBe ((l.drop 4).take 2), (l.drop 20).take m⟩ ∧
    (ipGood l ↔ ipL (getBe ((l.drop 12).take 4)) (getBe ((l.drop 16).take 4)) (getBe ((l.drop 8).take 1)) (getBe ((l.drop 9).take 1)) (getBe ((l.drop 4).take 2)) ((l.drop 20).take m) = l.take k) := by
  have e : (sizeIp l).toNat = k := by rw [hk]; simp
  have e1 : ipAt l = ⟨getBe ((l.drop 12).take 4), getBe ((l.drop 16).take 4), getBe ((l.drop 8).take 1), getBe ((l.drop 9).take 1), getBe ((l.drop 4).take 2), (l.drop 20).take m⟩ := by
    unfold ipAt
    rw [e, show k - 20 = m by omega]
  refine ⟨e1, ?_⟩
  unfold ipGood
  rw [e1, e, hk]
  exact ⟨fun h => h.2.2.2, fun h => ⟨h20, by omega, by omega, h⟩⟩
theorem ext_head (l : List UInt8) (n : Nat) : ({ data := l.toArray } : ByteArray).extract 0 n = ⟨(l.take n).toArray⟩ := ba_of (by rw [Lib.extract_data]; simp)
theorem gets_if_num (a : Addr) (sz : Int) (ps : List Part) (l : List UInt8) : getsL (.num a sz :: ps) l = if sz.toNat ≤ l.length then getsL ps (l.drop sz.toNat) else none := by
  split
  · exact gets_num a sz ps l (by assumption)
  · exact gets_short _ _ _ (by assumption)
theorem gets_if_fix (n sz : Int) (ps : List Part) (l : List UInt8) : getsL (.fix n sz :: ps) l = if sz.toNat ≤ l.length ∧ getBe (l.take sz.toNat) = n then getsL ps (l.drop sz.toNat) else none := by
  by_cases h1 : sz.toNat ≤ l.length
  · by_cases h2 : getBe (l.take sz.toNat) = n
    · rw [if_pos ⟨h1, h2⟩]; exact gets_fix n sz ps l h1 h2
    · rw [if_neg (fun h => h2 h.2)]; exact gets_wrong n sz ps l h1 h2
  · rw [if_neg (fun h => h1 h.1)]; exact gets_short _ _ _ h1
theorem gets_ip (P Z S : Nat) (l : List UInt8) : getsL (ipParts P Z S) l = if 20 ≤ l.length ∧ getBe (l.take 2) = 17664 ∧ getBe ((l.drop 6).take 2) = 16384 then some (l.drop 20) else none := by
  unfold ipParts
  rw [gets_if_fix, gets_if_num, gets_if_num, gets_if_fix, gets_if_num, gets_if_num, gets_if_num, gets_if_num, gets_if_num, getsL]
  simp only [List.drop_drop, List.length_drop, show (4 : Int).toNat = 4 from rfl, show (2 : Int).toNat = 2 from rfl, show (1 : Int).toNat = 1 from rfl, Nat.reduceAdd]
  by_cases h : 20 ≤ l.length ∧ getBe (l.take 2) = 17664 ∧ getBe ((l.drop 6).take 2) = 16384
  · obtain ⟨h1, h2, h3⟩ := h
    rw [if_pos ⟨by omega, h2⟩, if_pos (by omega), if_pos (by omega), if_pos ⟨by omega, h3⟩, if_pos (by omega), if_pos (by omega), if_pos (by omega), if_pos (by omega), if_pos (by omega), if_pos ⟨h1, h2, h3⟩]
  · rw [if_neg h]
    repeat' split
    all_goals first
      | rfl
      | (exfalso; refine h ⟨by omega, by simp_all, by simp_all⟩)

end Go.Proofs.Ytcbaenndkljlpaa
