/- For every code the law FnTtl answers true and leaves its argument as it was; no condition. -/
import Derived.Test.YtcbaenndkljlpaaRows
import Derived.Test.YtcbaenndkljlpaaDrawIp
import Derived.WalkKit
import Derived.ProofKit
import Derived.OpenShut
import Derived.ShutString
import Derived.ChangeOld
import Derived.Below
import Derived.Lib.SmallJoins
namespace Go.Proofs.Ytcbaenndkljlpaa.fnTtl
open Go.ChangeShapes Go.WideShapes Go.ChangeAt Go.RowKit Go.Joins
open Go.ChangeMaps (open_string shut_string)
set_option linter.unusedVariables false

theorem own : ownKnob Try.prog.godebug = none := by kernel_rfl
theorem laidOut : laidOutB Try.prog = true := by kernel_rfl


def IsRow (k : IntKind) (w : World) (a : Option Addr) (len cap : Nat) (zs : List Int) : Prop :=
  (a = none ∧ len = 0 ∧ cap = 0 ∧ zs = []) ∨
  ∃ x, a = some x ∧ len ≤ cap ∧ cap ≤ maxLen ∧ zs.length = cap ∧ (∀ i, i < zs.length → w.cell? (x.add i) = some (.int k (zs.getD i 0))) ∧ ∀ n ∈ zs, (Lit.int k n).wf = true

theorem ipL_some {s d t p i : Int} {b : List UInt8} (h : ipOk s d t p i b) : (ipL s d t p i b).isEmpty = false := by
  have e : ipL s d t p i b = ipT s d t p i b := if_pos h
  have h1 := (ip_start h).1
  rw [e]
  cases hx : ipT s d t p i b with
  | nil =>
    rw [hx] at h1
    have h2 := congrArg List.length h1
    rw [two_len 17664 (by omega) (by omega)] at h2
    simp at h2
  | cons _ _ => rfl
theorem two_lists (x y z u r : List UInt8) (hx : x.length = 8) (hy : y.length = 1) (hz : z.length = 1) (hu : u.length = 2) :
    (x ++ (y ++ (z ++ (u ++ r)))).take 8 = x ∧ (x ++ (y ++ (z ++ (u ++ r)))).drop 12 = r ∧ ((x ++ (y ++ (z ++ (u ++ r)))).drop 10).take 2 = u ∧ (x ++ (y ++ (z ++ (u ++ r)))).getD 8 0 = y.getD 0 0 ∧ (x ++ (y ++ (z ++ (u ++ r)))).getD 9 0 = z.getD 0 0 := by
  obtain ⟨y0, rfl⟩ : ∃ a, y = [a] := List.length_eq_one_iff.mp hy
  obtain ⟨z0, rfl⟩ : ∃ a, z = [a] := List.length_eq_one_iff.mp hz
  have a1 : (x ++ ([y0] ++ ([z0] ++ (u ++ r)))).drop 10 = u ++ r := by
    rw [show x ++ ([y0] ++ ([z0] ++ (u ++ r))) = (x ++ [y0] ++ [z0]) ++ (u ++ r) by simp]
    exact List.drop_left' (by simp; omega)
  have a2 : (x ++ ([y0] ++ ([z0] ++ (u ++ r)))).drop 12 = r := by
    rw [show x ++ ([y0] ++ ([z0] ++ (u ++ r))) = (x ++ [y0] ++ [z0] ++ u) ++ r by simp]
    exact List.drop_left' (by simp; omega)
  refine ⟨List.take_left' hx, a2, ?_, ?_, ?_⟩
  · rw [a1]; exact List.take_left' hu
  · rw [getD_app_right _ _ _ (by omega), hx]; rfl
  · rw [getD_app_right _ _ _ (by omega), hx]; rfl
theorem one_byte (t : Int) (h0 : 0 ≤ t) (h1 : t ≤ 255) : putL t 1 = [UInt8.ofNat t.toNat] := by
  rw [putL_ok (put1 h0 (by omega))]
  show [UInt8.ofNat (t.toNat % 256)] = _
  rw [Nat.mod_eq_of_lt (by omega)]
theorem tot_pair (a b : UInt8) : tot [a, b] = 256 * (a.toNat : Int) + (b.toNat : Int) := by
  simp [tot, sumN, sumAt]
theorem head_split (s d t p i n m : Int) : ipHead s d t p i n m = (putL 17664 2 ++ (putL n 2 ++ (putL i 2 ++ putL 16384 2))) ++ ((putL t 1 ++ putL p 1) ++ (putL m 2 ++ (putL s 4 ++ putL d 4))) := by
  unfold ipHead ipOl
  simp only [List.flatten_cons, List.flatten_nil, List.append_nil, List.append_assoc]
theorem head_eight (i n : Int) (hn : 0 ≤ n ∧ n < 65536) (hi : 0 ≤ i ∧ i < 65536) : (putL 17664 2 ++ (putL n 2 ++ (putL i 2 ++ putL 16384 2))).length = 8 := by
  simp only [List.length_append, two_len 17664 (by omega) (by omega), two_len 16384 (by omega) (by omega), two_len n hn.1 hn.2, two_len i hi.1 hi.2]
theorem ttl_tot (s d t p i n : Int) (hn : 0 ≤ n ∧ n < 65536) (hi : 0 ≤ i ∧ i < 65536) (ht : 1 ≤ t) (ht1 : t ≤ 255) (hp : 0 ≤ p) (hp1 : p ≤ 255) : tot (ipHead s d t p i n 0) = tot (ipHead s d (t - 1) p i n 0) + 256 := by
  have h8 := head_eight i n hn hi
  rw [head_split, head_split]
  generalize putL 17664 2 ++ (putL n 2 ++ (putL i 2 ++ putL 16384 2)) = a8 at *
  generalize putL 0 2 ++ (putL s 4 ++ putL d 4) = r
  rw [one_byte t (by omega) ht1, one_byte (t - 1) (by omega) (by omega), one_byte p hp hp1]
  have e1 : [UInt8.ofNat t.toNat] ++ [UInt8.ofNat p.toNat] = [UInt8.ofNat t.toNat, UInt8.ofNat p.toNat] := rfl
  have e2 : [UInt8.ofNat (t - 1).toNat] ++ [UInt8.ofNat p.toNat] = [UInt8.ofNat (t - 1).toNat, UInt8.ofNat p.toNat] := rfl
  rw [e1, e2, tot_app a8 _ (by rw [h8]), tot_app a8 _ (by rw [h8]), tot_app [UInt8.ofNat t.toNat, UInt8.ofNat p.toNat] r (by simp), tot_app [UInt8.ofNat (t - 1).toNat, UInt8.ofNat p.toNat] r (by simp), tot_pair, tot_pair]
  have f1 : (UInt8.ofNat t.toNat).toNat = t.toNat := by simp; omega
  have f2 : (UInt8.ofNat (t - 1).toNat).toNat = (t - 1).toNat := by simp; omega
  rw [f1, f2]
  omega
theorem sum_moves (a b : List UInt8) (ha : a.length ≤ 2000) (hb : b.length ≤ 2000) (h : tot a = tot b + 256) (h0 : 0 < tot b) : sum16 a ≠ sum16 b := by
  rw [sum16_tot a ha, sum16_tot b hb, h]
  unfold fin16
  rw [if_neg (by omega), if_neg (by omega)]
  omega
theorem head_pos (s d t p i n m : Int) (hn : 0 ≤ n ∧ n < 65536) : 0 < tot (ipHead s d t p i n m) := by
  have e : ipHead s d t p i n m = [69, 0] ++ (putL n 2 ++ (putL i 2 ++ (putL 16384 2 ++ (putL t 1 ++ (putL p 1 ++ (putL m 2 ++ (putL s 4 ++ putL d 4))))))) := by
    unfold ipHead ipOl
    simp only [List.flatten_cons, List.flatten_nil, List.append_nil]
    rfl
  rw [e, tot_app _ _ rfl, tot_pair]
  have := tot_nonneg (putL n 2 ++ (putL i 2 ++ (putL 16384 2 ++ (putL t 1 ++ (putL p 1 ++ (putL m 2 ++ (putL s 4 ++ putL d 4)))))))
  have f : (69 : UInt8).toNat = 69 := rfl
  rw [f]
  omega
/-- What the law asks of the bytes. -/
theorem ttl_facts (s d t p i : Int) (b A B : List UInt8) (h : ipOk s d t p i b) (h0 : t ≠ 0) (hA : A = ipL s d t p i b) (hB : B = ipL s d (t - 1) p i b) :
    20 ≤ A.length ∧ B.length = A.length ∧ B.take 8 = A.take 8 ∧ B.drop 12 = A.drop 12 ∧ (B.drop 10).take 2 ≠ (A.drop 10).take 2 ∧ ((B.getD 8 0).toNat : Int) = ((A.getD 8 0).toNat : Int) - 1 ∧ 1 ≤ ((A.getD 8 0).toNat : Int) ∧ B.getD 9 0 = A.getD 9 0 := by
  obtain ⟨a1, a2, a3, a4, a5, a6, a7, a8, a9, a10, a11⟩ := h
  have e1 : ipL s d t p i b = ipT s d t p i b := if_pos ⟨a1, a2, a3, a4, a5, a6, a7, a8, a9, a10, a11⟩
  have e2 : ipL s d (t - 1) p i b = ipT s d (t - 1) p i b := if_pos ⟨a1, a2, a3, a4, by omega, by omega, a7, a8, a9, a10, a11⟩
  have hn : 0 ≤ 20 + (b.length : Int) ∧ 20 + (b.length : Int) < 65536 := by omega
  have s1 := sum16_bd (ipHead s d t p i (20 + b.length) 0) (by have := ipHead_len s d t p i (20 + b.length) 0; omega)
  have s2 := sum16_bd (ipHead s d (t - 1) p i (20 + b.length) 0) (by have := ipHead_len s d (t - 1) p i (20 + b.length) 0; omega)
  have hne : ipSum s d t p i (20 + b.length) ≠ ipSum s d (t - 1) p i (20 + b.length) := sum_moves _ _ (by have := ipHead_len s d t p i (20 + b.length) 0; omega) (by have := ipHead_len s d (t - 1) p i (20 + b.length) 0; omega) (ttl_tot s d t p i _ hn (by omega) (by omega) (by omega) (by omega) (by omega)) (head_pos _ _ _ _ _ _ _ hn)
  have g1 : ipT s d t p i b = (putL 17664 2 ++ (putL (20 + (b.length : Int)) 2 ++ (putL i 2 ++ putL 16384 2))) ++ (putL t 1 ++ (putL p 1 ++ (putL (ipSum s d t p i (20 + b.length)) 2 ++ (putL s 4 ++ (putL d 4 ++ b))))) := by
    unfold ipT
    rw [head_split]
    simp only [List.append_assoc]
  have g2 : ipT s d (t - 1) p i b = (putL 17664 2 ++ (putL (20 + (b.length : Int)) 2 ++ (putL i 2 ++ putL 16384 2))) ++ (putL (t - 1) 1 ++ (putL p 1 ++ (putL (ipSum s d (t - 1) p i (20 + b.length)) 2 ++ (putL s 4 ++ (putL d 4 ++ b))))) := by
    unfold ipT
    rw [head_split]
    simp only [List.append_assoc]
  have h8 := head_eight i (20 + (b.length : Int)) hn (by omega)
  have k1 := two_len (ipSum s d t p i (20 + b.length)) s1.1 s1.2
  have k2 := two_len (ipSum s d (t - 1) p i (20 + b.length)) s2.1 s2.2
  have k3 := get_put _ 2 (put2 s1.1 s1.2)
  have k4 := get_put _ 2 (put2 s2.1 s2.2)
  have hd : putL (ipSum s d (t - 1) p i (20 + b.length)) 2 ≠ putL (ipSum s d t p i (20 + b.length)) 2 := by
    intro e
    have := congrArg getBe e
    unfold ipSum at hne this
    rw [k3, k4] at this
    exact hne this.symm
  have u1 : (putL t 1).length = 1 := putL_len _ _ (put1 a5 (by omega))
  have u2 : (putL (t - 1) 1).length = 1 := putL_len _ _ (put1 (by omega) (by omega))
  have u3 : (putL p 1).length = 1 := putL_len _ _ (put1 a7 (by omega))
  have p1 := two_lists _ _ _ _ (putL s 4 ++ (putL d 4 ++ b)) h8 u1 u3 k1
  have p2 := two_lists _ _ _ _ (putL s 4 ++ (putL d 4 ++ b)) h8 u2 u3 k2
  have lA : A.length = 12 + (putL s 4 ++ (putL d 4 ++ b)).length := by rw [hA, e1, g1]; simp only [List.length_append] at h8 ⊢; omega
  have lB : B.length = 12 + (putL s 4 ++ (putL d 4 ++ b)).length := by rw [hB, e2, g2]; simp only [List.length_append] at h8 ⊢; omega
  have l4 : (putL s 4).length = 4 := putL_len _ _ (put4 a1 a2)
  have l5 : (putL d 4).length = 4 := putL_len _ _ (put4 a3 a4)
  rw [← g1, ← e1, ← hA] at p1
  rw [← g2, ← e2, ← hB] at p2
  refine ⟨by rw [lA]; simp only [List.length_append]; omega, by rw [lA, lB], by rw [p1.1, p2.1], by rw [p1.2.1, p2.2.1], by rw [p1.2.2.1, p2.2.2.1]; exact hd, ?_, ?_, by rw [p1.2.2.2.2, p2.2.2.2.2]⟩
  · rw [p1.2.2.2.1, p2.2.2.2.1, one_byte t a5 a6, one_byte (t - 1) (by omega) (by omega)]
    simp
    omega
  · rw [p1.2.2.2.1, one_byte t a5 a6]
    simp
    omega
theorem getD_in (l : List UInt8) (k : Nat) (h : k < l.length) : l.getD k 0 = l[k] := by rw [List.getD_eq_getElem?_getD, List.getElem?_eq_getElem h]; rfl

set_option maxRecDepth 100000 in
set_option maxHeartbeats 1000000 in
theorem walk (a0 : Option Addr) (len0 cap0 : Nat) (z0 : List Int) (w : World) (w0 : IsRow .u8 w a0 len0 cap0 z0) :
    Calls Try.prog 4 #[.slice a0 len0 cap0] w fun e w' => e = .returned (.bool true) ∧ Below w.heap.size w w' := by
  have hc := code_of w0
  clear w0
  have HC := Lib.hid hc
  clear hc
  by_cases hbig : 1048576 < len0
  · go_enter Try.func4, Try.ntmps4
    go_wp2_with (go_at_call 8; refine (big_any _ _ _ _).mono ?_; rintro e w' ⟨rfl, rfl⟩)
    go_ret
    exact ⟨rfl, Below.refl _ _⟩
  · go_enter Try.func4, Try.ntmps4
    go_wp2_with (go_at_call 8; refine (big_any _ _ _ _).mono ?_; rintro e w' ⟨rfl, rfl⟩)
    refine (draw_ip _ _ _ _ HC.out).mono ?_
    rintro e w1 ⟨s, d, t, p, i, b, rfl, hg⟩
    have H1 := Lib.hid ((ip_new w1 (.int .i64 s) (.int .i64 d) (.int .i64 t) (.int .i64 p) (.int .i64 i) (.string ⟨b.toArray⟩) 25).base hg)
    clear hg
    go_wp2_with fail
    refine (ip_impl _ _ _ _ _ _ _).mono ?_
    rintro e w2 ⟨rfl, hg⟩
    have H2 := Lib.hid (H1.out.kept hg)
    clear hg H1
    obtain ⟨c0, c1, c2, c3, c4, c5⟩ := ip_facts H2.out
    go_wp2_with fail
    refine (ip_spec _ _ _ _ _ _ _).mono ?_
    rintro e w3 ⟨rfl, hg⟩
    have H3 := Lib.hid (H2.out.kept hg)
    clear hg H2 c0 c1 c2 c3 c4 c5
    obtain ⟨c0, c1, c2, c3, c4, c5⟩ := ip_facts H3.out
    obtain ⟨z0, z1, z2, z3, z4, z5⟩ := ip_frees H3.out
    by_cases hok : ipOk s d t p i b
    · by_cases ht0 : t = 0
      · subst ht0
        have hne : (ipL s d 0 p i b).isEmpty = false := ipL_some hok
        obtain ⟨A, hA⟩ : ∃ A, A = ipL s d 0 p i b := ⟨_, rfl⟩
        rw [← hA] at hne ⊢
        have HA := Lib.hid hA
        clear hok hA
        go_wp2_with fail
        refine (ip_spec _ _ _ _ _ _ _).mono ?_
        rintro e w4 ⟨rfl, hg⟩
        rw [← HA.out]
        have HG := Lib.hid (grownBy_trans H3.out.grown hg)
        clear hg
        go_wp2_with fail
        go_ret
        exact ⟨rfl, below_new HG.out⟩
      · have hne : (ipL s d t p i b).isEmpty = false := ipL_some hok
        have ht1 : (t == 0) = false := by simpa using ht0
        obtain ⟨A, hA⟩ : ∃ A, A = ipL s d t p i b := ⟨_, rfl⟩
        rw [← hA] at hne ⊢
        have HA := Lib.hid (And.intro hok (And.intro hA ht0))
        have hw : wrap64 (t - 1) = t - 1 := wrap_small (by have := hok.2.2.2.2.1; omega) (by have := hok.2.2.2.2.2.1; omega)
        have h4 := H3.out.set ⟨w1.heap.size, 2, none⟩ _ (.int .i64 (t - 1)) (by simp only [ipCells]; exact .tail _ (.tail _ (.head _)))
        have H4 := Lib.hid h4.grown
        clear hok hA ht0 h4
        go_wp2_with fail
        refine (ip_impl _ _ _ _ _ _ _).mono ?_
        rintro e w4 ⟨rfl, hg⟩
        have HG := Lib.hid (grownBy_trans H4.out hg)
        clear hg
        obtain ⟨B, hB⟩ : ∃ B, B = ipL s d (t - 1) p i b := ⟨_, rfl⟩
        rw [← hB]
        obtain ⟨g1, g2, g3, g4, g5, g6, g7, g8⟩ := ttl_facts s d t p i b A B HA.out.1 HA.out.2.2 HA.out.2.1 hB
        clear hB
        have f1 : (8 : Int) ≤ (A.length : Int) := by omega
        have f2 : (12 : Int) ≤ (A.length : Int) := by omega
        have f3 : (8 : Int) < (A.length : Int) := by omega
        have f4 : (9 : Int) < (A.length : Int) := by omega
        have x1 : ({ data := B.toArray } : ByteArray).extract 0 8 = ({ data := A.toArray } : ByteArray).extract 0 8 := by rw [ext_head, ext_head, g3]
        have x2 : ({ data := B.toArray } : ByteArray).extract 12 A.length = ({ data := A.toArray } : ByteArray).extract 12 A.length := by
          rw [extract_mid _ _ _ (by omega), extract_mid _ _ _ (by omega), g4]
        have k8 : 8 < B.length := by omega
        have k9 : 9 < B.length := by omega
        have j8 : 8 < A.length := by omega
        have j9 : 9 < A.length := by omega
        rw [getD_in _ _ k8, getD_in _ _ j8] at g6
        rw [getD_in _ _ j8] at g7
        rw [getD_in _ _ k9, getD_in _ _ j9] at g8
        have s8 : 8 < ({ data := B.toArray } : ByteArray).size := k8
        have s9 : 9 < ({ data := B.toArray } : ByteArray).size := k9
        have r8 : 8 < ({ data := A.toArray } : ByteArray).size := j8
        have r9 : 9 < ({ data := A.toArray } : ByteArray).size := j9
        have y8 : ((({ data := B.toArray } : ByteArray)[8]'s8).toNat : Int) = ((({ data := A.toArray } : ByteArray)[8]'r8).toNat : Int) - 1 := g6
        have y9 : ({ data := B.toArray } : ByteArray)[9]'s9 = ({ data := A.toArray } : ByteArray)[9]'r9 := g8
        have yw : IntKind.u8.wrap (((({ data := A.toArray } : ByteArray)[8]'r8).toNat : Int) - 1) = ((({ data := A.toArray } : ByteArray)[8]'r8).toNat : Int) - 1 := by
          have g7' : 1 ≤ ((({ data := A.toArray } : ByteArray)[8]'r8).toNat : Int) := g7
          have := (({ data := A.toArray } : ByteArray)[8]'r8).toNat_lt
          rw [IntKind.wrap]
          simp [IntKind.bits, IntKind.signed]
          omega
        have f5 : (9 : Int) ≤ (A.length : Int) := by omega
        have f6 : (10 : Int) ≤ (A.length : Int) := by omega
        have b12 : (12 : Int) ≤ (B.length : Int) := by omega
        have HG5 := Lib.hid (And.intro g5 g2)
        clear g1 g3 g4 g5 g6 g7 g8
        go_wp2_with fail
        go_quiet (fail)
        have hx : (!(({ data := B.toArray } : ByteArray).extract 10 12).toList == (({ data := A.toArray } : ByteArray).extract 10 12).toList) = true := by
          rw [extract_mid _ _ _ (by omega), extract_mid _ _ _ (by omega), ba_list, ba_list]
          simpa using HG5.out.1
        rw [hx]
        go_wp2_with fail
        go_ret
        exact ⟨rfl, below_new (grownBy_trans HG.out (grownBy_drewN _))⟩
    · have HE := Lib.hid (show ipL s d t p i b = [] from if_neg hok)
      clear hok
      rw [HE.out]
      go_wp2_with fail
      refine (ip_spec _ _ _ _ _ _ _).mono ?_
      rintro e w4 ⟨rfl, hg⟩
      rw [HE.out]
      have HG := Lib.hid (grownBy_trans H3.out.grown hg)
      clear hg
      go_wp2_with fail
      go_ret
      exact ⟨rfl, below_new HG.out⟩

set_option maxRecDepth 100000 in
theorem lifted (os : Os) (started : os.Started) (H : Type) (enc : TypeId × Value → H) :
    ReturnsInHanded {} Try.checked os 4 .any (Rows.fnTtlSpec.pre6 enc Try.prog Try.f4 Rows.fnTtlRow.domain false) (Rows.fnTtlSpec.post enc Try.prog Try.f4 false true false false) := by
  refine returnsInHanded_of_change (C := Try.checked) own started (by kernel_rfl) Try.func4
    (ChangeSpec.witness6 (enc := enc) (C := Try.checked) false ⟨#[], #[.slice none 0 0], []⟩ 8 (by kernel_rfl) (by kernel_rfl) (by kernel_rfl) (by kernel_rfl)) ?_
  intro W base args ds gs before hval0 hW hcnd _
  have hval : ∀ (j : Nat) t v, Try.f4.params[j]? = some t → args[j]? = some v → Value.okWide Try.prog W .any base t v := hval0
  have hW' := hW
  obtain ⟨p, q, hA0, hV, rfl, hfz, hnd⟩ := hW
  have hA : DataW.TrodAll enc Try.prog W 0 (fun _ => true) true Try.f4.params.toList args.toList ds p := hA0
  rw [Try.params4] at hA hval
  obtain ⟨v0, vs0, d0, ds0, p0, q0, hargs, rfl, rfl, h0, r0⟩ := trodAll_cons hA
  obtain ⟨rfl, rfl, rfl⟩ := trodAll_nil r0
  obtain rfl : args = #[v0] := by cases args; simp_all
  obtain ⟨rfl, rfl⟩ := trodVars_none hV
  have k0 := h0
  have lt0 : ∀ x ∈ p0, x.block < W.heap.size := by obtain ⟨m, hm⟩ := k0; exact DataW.trod_lt m _ _ _ hm
  obtain ⟨a0, len0, cap0, rfl⟩ := okWide_slice Try.underlying22 (hval 0 22 v0 rfl rfl)
  obtain ⟨z0, w0⟩ : ∃ zs, IsRow .u8 W a0 len0 cap0 zs := by
    obtain ⟨fuel, hf⟩ := h0
    rcases open_ints Try.underlying22 Try.underlying5 (by kernel_rfl) hf with ⟨hcs, _⟩ | ⟨x, l, c, zs, hcs, _, hl, hm, hz, _, hcell, hwz⟩
    · simp [Value.cells] at hcs
      obtain ⟨rfl, rfl, rfl⟩ := hcs
      exact ⟨[], .inl ⟨rfl, rfl, rfl, rfl⟩⟩
    · simp [Value.cells] at hcs
      obtain ⟨rfl, rfl, rfl⟩ := hcs
      exact ⟨zs, .inr ⟨_, rfl, hl, hm, by simpa using hz, hcell, hwz⟩⟩
  clear hA0 hval0
  refine (walk a0 len0 cap0 z0 W w0).mono fun e W' ⟨he, bel⟩ => ?_
  subst he
  exact ⟨_, rfl, _, _, _, [], _, [], hW', trodAll_mk1 (shut_bool Try.underlying4 _), (trodAll_cons_mk (Below.trod laidOut (by kernel_rfl) (of_decide_eq_true (by kernel_rfl)) k0 bel lt0) trodAll_mk0), rfl, bel.frame _, fun h => by cases h⟩

theorem over : Rows.fnTtlRow.holds Try.pinned (OpenSpec.ofChange Rows.fnTtlSpec) :=
  OpenClaim.holds_of_wide 4 Try.f4 rfl rfl rfl rfl rfl rfl rfl ⟨rfl, rfl, rfl, rfl, rfl⟩ rfl rfl rfl rfl rfl (by kernel_rfl) Try.func4 (by kernel_rfl)
    (of_decide_eq_true (by kernel_rfl)) (by unfold Func.isWrapper; first | (rw [if_pos (by decide +kernel)]; kernel_rfl) | (rw [if_neg (by decide +kernel)]; exact ⟨rfl, rfl⟩))
    (fun os started H enc _ => lifted os started H enc)

theorem proved : Rows.FnTtlSaid := over
end Go.Proofs.Ytcbaenndkljlpaa.fnTtl
