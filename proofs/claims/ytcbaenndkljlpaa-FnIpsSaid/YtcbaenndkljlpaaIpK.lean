/- A packet comes back from its bytes, whatever stands behind it; its head has the sum 0. -/
import Derived.Test.YtcbaenndkljlpaaIpJ
namespace Go.Proofs.Ytcbaenndkljlpaa
open Go.RowKit

theorem drop_next (l x r : List UInt8) (k n : Nat) (h : l.drop k = x ++ r) (hx : x.length = n) : l.drop (k + n) = r ∧ (l.drop k).take n = x := by
  constructor
  · rw [← List.drop_drop, h]; exact List.drop_left' hx
  · rw [h]; exact List.take_left' hx
theorem ipT_list (s d t p i : Int) (b r : List UInt8) : ipT s d t p i b ++ r = putL 17664 2 ++ (putL (20 + (b.length : Int)) 2 ++ (putL i 2 ++ (putL 16384 2 ++ (putL t 1 ++ (putL p 1 ++ (putL (ipSum s d t p i (20 + b.length)) 2 ++ (putL s 4 ++ (putL d 4 ++ (b ++ r))))))))) := by
  unfold ipT ipHead ipOl
  simp only [List.flatten_cons, List.flatten_nil, List.append_nil, List.append_assoc]

theorem ip_back (s d t p i : Int) (b r : List UInt8) (h : ipOk s d t p i b) : ipGood (ipT s d t p i b ++ r) ∧ ipAt (ipT s d t p i b ++ r) = ⟨s, d, t, p, i, b⟩ ∧ (ipT s d t p i b).length = 20 + b.length := by
  have hh := h
  obtain ⟨a1, a2, a3, a4, a5, a6, a7, a8, a9, a10, a11⟩ := h
  have sb := sum16_bd (ipHead s d t p i (20 + b.length) 0) (by have := ipHead_len s d t p i (20 + b.length) 0; omega)
  have l0 := two_len 17664 (by omega) (by omega)
  have l1 := two_len (20 + (b.length : Int)) (by omega) (by omega)
  have l2 := two_len i (by omega) (by omega)
  have l3 := two_len 16384 (by omega) (by omega)
  have l4 : (putL t 1).length = 1 := putL_len _ _ (put1 a5 (by omega))
  have l5 : (putL p 1).length = 1 := putL_len _ _ (put1 a7 (by omega))
  have l6 : (putL (ipSum s d t p i (20 + b.length)) 2).length = 2 := two_len _ sb.1 sb.2
  have l7 : (putL s 4).length = 4 := putL_len _ _ (put4 a1 a2)
  have l8 : (putL d 4).length = 4 := putL_len _ _ (put4 a3 a4)
  have hlen : (ipT s d t p i b).length = 20 + b.length := by
    have e := congrArg List.length (ipT_list s d t p i b [])
    simp only [List.append_nil, List.length_append] at e
    omega
  have e := ipT_list s d t p i b r
  have ht : (ipT s d t p i b ++ r).take (20 + b.length) = ipT s d t p i b := List.take_left' hlen
  have hL : (ipT s d t p i b ++ r).length = 20 + b.length + r.length := by rw [List.length_append, hlen]
  generalize hl : ipT s d t p i b ++ r = l at *
  have k0 := drop_next l _ _ 0 2 (by rw [List.drop_zero]; exact e) l0
  have k1 := drop_next l _ _ 2 2 k0.1 l1
  have k2 := drop_next l _ _ 4 2 k1.1 l2
  have k3 := drop_next l _ _ 6 2 k2.1 l3
  have k4 := drop_next l _ _ 8 1 k3.1 l4
  have k5 := drop_next l _ _ 9 1 k4.1 l5
  have k6 := drop_next l _ _ 10 2 k5.1 l6
  have k7 := drop_next l _ _ 12 4 k6.1 l7
  have k8 := drop_next l _ _ 16 4 k7.1 l8
  have hsz : sizeIp l = ((20 + b.length : Nat) : Int) := by
    unfold sizeIp
    rw [k1.2, get_put _ 2 (put2 (by omega) (by omega))]
    simp
  have hg := good_iff l (20 + b.length) b.length (by omega) hsz (by omega) (by omega)
  have hb : (l.drop 20).take b.length = b := by rw [k8.1]; exact List.take_left' rfl
  rw [hb, k7.2, k8.2, k4.2, k5.2, k2.2, get_put s 4 (put4 a1 a2), get_put d 4 (put4 a3 a4), get_put t 1 (put1 a5 (by omega)), get_put p 1 (put1 a7 (by omega)), get_put i 2 (put2 (by omega) (by omega))] at hg
  exact ⟨hg.2.2 (by rw [ht]; exact if_pos hh), hg.1, hlen⟩

theorem head_sum (s d t p i : Int) (b r : List UInt8) (h : ipOk s d t p i b) : sum16 ((ipT s d t p i b ++ r).take 20) = 0 := by
  obtain ⟨a1, a2, a3, a4, a5, a6, a7, a8, a9, a10, a11⟩ := h
  have sb := sum16_bd (ipHead s d t p i (20 + b.length) 0) (by have := ipHead_len s d t p i (20 + b.length) 0; omega)
  have l0 := two_len 17664 (by omega) (by omega)
  have l1 := two_len (20 + (b.length : Int)) (by omega) (by omega)
  have l2 := two_len i (by omega) (by omega)
  have l3 := two_len 16384 (by omega) (by omega)
  have l4 : (putL t 1).length = 1 := putL_len _ _ (put1 a5 (by omega))
  have l5 : (putL p 1).length = 1 := putL_len _ _ (put1 a7 (by omega))
  have l7 : (putL s 4).length = 4 := putL_len _ _ (put4 a1 a2)
  have l8 : (putL d 4).length = 4 := putL_len _ _ (put4 a3 a4)
  have g : ∀ m, ipHead s d t p i (20 + b.length) m = (putL 17664 2 ++ (putL (20 + (b.length : Int)) 2 ++ (putL i 2 ++ (putL 16384 2 ++ (putL t 1 ++ putL p 1))))) ++ (putL m 2 ++ (putL s 4 ++ putL d 4)) := by
    intro m
    unfold ipHead ipOl
    simp only [List.flatten_cons, List.flatten_nil, List.append_nil, List.append_assoc]
  have hA : (putL 17664 2 ++ (putL (20 + (b.length : Int)) 2 ++ (putL i 2 ++ (putL 16384 2 ++ (putL t 1 ++ putL p 1))))).length = 10 := by simp only [List.length_append, l0, l1, l2, l3, l4, l5]
  have hB : (putL s 4 ++ putL d 4).length = 8 := by simp only [List.length_append, l7, l8]
  have hm : ∀ m, 0 ≤ m → m < 65536 → tot (putL m 2) = m := by
    intro m h0 h1
    rw [putL_ok (put2 h0 h1)]
    show tot (beL m.toNat 2) = _
    rw [beL_2]
    simp [tot, sumN, sumAt]
    omega
  have tt : ∀ m, 0 ≤ m → m < 65536 → tot (ipHead s d t p i (20 + b.length) m) = tot (ipHead s d t p i (20 + b.length) 0) + m := by
    intro m h0 h1
    rw [g m, g 0]
    have hA' := hA
    generalize putL 17664 2 ++ (putL (20 + (b.length : Int)) 2 ++ (putL i 2 ++ (putL 16384 2 ++ (putL t 1 ++ putL p 1)))) = a10 at hA' ⊢
    generalize putL s 4 ++ putL d 4 = z
    have e1 := tot_app a10 (putL m 2 ++ z) (by rw [hA'])
    have e2 := tot_app a10 (putL 0 2 ++ z) (by rw [hA'])
    have e3 := tot_app (putL m 2) z (by rw [two_len m h0 h1])
    have e4 := tot_app (putL 0 2) z (by rw [two_len 0 (by omega) (by omega)])
    have e5 := hm m h0 h1
    have e6 := hm 0 (by omega) (by omega)
    omega
  have hl20 : (ipHead s d t p i (20 + b.length) (ipSum s d t p i (20 + b.length))).length = 20 := by
    rw [g]
    simp only [List.length_append] at hA hB ⊢
    have := two_len (ipSum s d t p i (20 + b.length)) sb.1 sb.2
    omega
  have e : (ipT s d t p i b ++ r).take 20 = ipHead s d t p i (20 + b.length) (ipSum s d t p i (20 + b.length)) := by
    unfold ipT
    rw [List.append_assoc]
    exact List.take_left' hl20
  have hx : ipSum s d t p i (20 + b.length) = 65535 - fin16 (tot (ipHead s d t p i (20 + b.length) 0)) := sum16_tot _ (by have := ipHead_len s d t p i (20 + b.length) 0; omega)
  have e2 := tt (ipSum s d t p i (20 + b.length)) sb.1 sb.2
  rw [e, sum16_tot _ (by omega), e2, hx]
  have h0 := tot_nonneg (ipHead s d t p i (20 + b.length) 0)
  generalize tot (ipHead s d t p i (20 + b.length) 0) = T at *
  unfold fin16
  by_cases hT : T = 0
  · subst hT; simp
  · rw [if_neg hT]
    rw [if_neg (by omega)]
    omega

/-- What both read of a text. -/
theorem both_ip (l : List UInt8) (hl : l.length ≤ 1000000000000) : ∃ s d t p i b x, (∀ w, Calls Try.prog 13 #[.string ⟨l.toArray⟩] w fun e w' => e = .returned (.tuple #[ipV s d t p i b, .bool x]) ∧ w.grownBy w' none) ∧ (∀ w, Calls Try.prog 12 #[.string ⟨l.toArray⟩] w fun e w' => e = .returned (.tuple #[ipV s d t p i b, .bool x]) ∧ w.grownBy w' none) ∧ (x = true → ipL s d t p i b = l.take (20 + b.length) ∧ 20 + b.length ≤ l.length ∧ b.length ≤ 362) := by
  refine ⟨_, _, _, _, _, _, _, ip_model l hl, ip_read_any l hl, fun hd => ?_⟩
  have h : ipGood l := of_decide_eq_true hd
  rw [ipOut, if_pos h]
  have h1 := h.1
  have h2 := h.2.1
  have h3 := h.2.2.1
  obtain ⟨k, hk⟩ := Int.eq_ofNat_of_zero_le (show 0 ≤ sizeIp l by omega)
  have hk' : sizeIp l = (k : Int) := hk
  have hg := good_iff l k (k - 20) h1 hk' (by omega) (by omega)
  have hb : ((l.drop 20).take (k - 20)).length = k - 20 := by simp; omega
  have he := hg.2.1 h
  have hne : (ipAt l).bytes ≠ [] := by
    rw [h.2.2.2]
    intro h5
    have h6 := congrArg List.length h5
    rw [List.length_take, Nat.min_eq_left (by omega), List.length_nil] at h6
    omega
  have hok := (ip_ok_bytes hne).1.2.2.2.2.2.2.2.2.2.2
  rw [hg.1] at hok ⊢
  simp only at hok ⊢
  rw [hb] at hok ⊢
  exact ⟨by rw [he]; congr 1; omega, by omega, hok⟩
theorem back_ip (s d t p i : Int) (b r : List UInt8) (h : ipOk s d t p i b) (hr : r.length ≤ 1000000) (w : World) : Calls Try.prog 12 #[.string ⟨(ipL s d t p i b ++ r).toArray⟩] w fun e w' => e = .returned (.tuple #[ipV s d t p i b, .bool true]) ∧ w.grownBy w' none := by
  have hL : ipL s d t p i b = ipT s d t p i b := if_pos h
  obtain ⟨h1, h2, h3⟩ := ip_back s d t p i b r h
  have h5 := h.2.2.2.2.2.2.2.2.2.2
  rw [hL]
  refine (ip_read_any _ (by rw [List.length_append]; omega) w).mono fun e w' he => ⟨?_, he.2⟩
  rw [he.1, decide_eq_true h1, ipOut, if_pos h1, h2]

end Go.Proofs.Ytcbaenndkljlpaa
