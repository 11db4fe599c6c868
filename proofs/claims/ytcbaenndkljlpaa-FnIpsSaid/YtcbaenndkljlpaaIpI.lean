/- The program's reading of a packet. -/
import Derived.Test.YtcbaenndkljlpaaIpR
import Derived.Deep.RegionHeld3
namespace Go.Proofs.Ytcbaenndkljlpaa
open Go.RowKit

theorem ip_sizes (P Z S : Nat) : (ipParts P Z S).length ≤ 100 ∧ (∀ p ∈ ipParts P Z S, 0 ≤ p.szI ∧ p.szI ≤ 1000) := by simp [ipParts, Part.szI]
def ipVals (P Z S : Nat) (s d t p i b n m : Value) : List (Addr × Value) := ipCells P s d t p i b ++ oneCells Z n ++ oneCells S m
theorem ip_places (P Z S : Nat) (s d t p i b n m : Value) : ∀ q ∈ ipParts P Z S, ∀ a, q.place = some a → ∃ u, (a, u) ∈ ipVals P Z S s d t p i b n m := by
  intro q hq a ha
  simp only [ipParts, List.mem_cons, List.not_mem_nil, or_false] at hq
  rcases hq with rfl | rfl | rfl | rfl | rfl | rfl | rfl | rfl | rfl
  all_goals simp only [Part.place, Option.some.injEq, reduceCtorEq] at ha
  · exact ⟨n, by subst ha; simp [ipVals, ipCells, oneCells]⟩
  · exact ⟨i, by subst ha; simp [ipVals, ipCells, oneCells]⟩
  · exact ⟨t, by subst ha; simp [ipVals, ipCells, oneCells]⟩
  · exact ⟨p, by subst ha; simp [ipVals, ipCells, oneCells]⟩
  · exact ⟨m, by subst ha; simp [ipVals, ipCells, oneCells]⟩
  · exact ⟨s, by subst ha; simp [ipVals, ipCells, oneCells]⟩
  · exact ⟨d, by subst ha; simp [ipVals, ipCells, oneCells]⟩
theorem ip_read (P : Nat) (l : List UInt8) (s d t p i b n m : Value) : ((ipVals P (P + 1) (P + 1 + 1) s d t p i b n m).map fun x => (x.1, updL (ipParts P (P + 1) (P + 1 + 1)) l x.1 x.2)) = ipVals P (P + 1) (P + 1 + 1) (.int .i64 (getBe ((l.drop 12).take 4))) (.int .i64 (getBe ((l.drop 16).take 4))) (.int .i64 (getBe ((l.drop 8).take 1))) (.int .i64 (getBe ((l.drop 9).take 1))) (.int .i64 (getBe ((l.drop 4).take 2))) b (.int .i64 (sizeIp l)) (.int .i64 (getBe ((l.drop 10).take 2))) := by
  simp [ipVals, ipCells, oneCells, ipParts, updL, sizeIp]
  intro h
  omega
theorem ip_some (P Z S : Nat) (g : Addr → Value) (s d t p i b n m : Value) : ∃ s' d' t' p' i' b' n' m', ((ipVals P Z S s d t p i b n m).map fun x => (x.1, g x.1)) = ipVals P Z S s' d' t' p' i' b' n' m' := ⟨_, _, _, _, _, _, _, _, rfl⟩
theorem ip_frees {w w' : World} {P : Nat} {s d t p i b : Value} (hm : Mine w (ipCells P s d t p i b) w') : w'.frozen? ⟨P, 0, none⟩ = false ∧ w'.frozen? ⟨P, 1, none⟩ = false ∧ w'.frozen? ⟨P, 2, none⟩ = false ∧ w'.frozen? ⟨P, 3, none⟩ = false ∧ w'.frozen? ⟨P, 4, none⟩ = false ∧ w'.frozen? ⟨P, 5, none⟩ = false :=
  ⟨hm.free ⟨P, 0, none⟩ s (by simp [ipCells]), hm.free ⟨P, 1, none⟩ d (by simp [ipCells]), hm.free ⟨P, 2, none⟩ t (by simp [ipCells]), hm.free ⟨P, 3, none⟩ p (by simp [ipCells]), hm.free ⟨P, 4, none⟩ i (by simp [ipCells]), hm.free ⟨P, 5, none⟩ b (by simp [ipCells])⟩
theorem res6_grown {w a : World} {R : Nat} (t f v k b c : Value) (h : w.grownBy a none) (hR : w.heap.size ≤ R) : w.grownBy ((((((a.setCell ⟨R, 0, none⟩ t).setCell ⟨R, 1, none⟩ f).setCell ⟨R, 2, none⟩ v).setCell ⟨R, 3, none⟩ k).setCell ⟨R, 4, none⟩ b).setCell ⟨R, 5, none⟩ c) none :=
  grownBy_new h (grownBy_trans (grownBy_trans (grownBy_trans (grownBy_trans (grownBy_trans (grownBy_set _ _ _ _) (grownBy_set _ _ _ _)) (grownBy_set _ _ _ _)) (grownBy_set _ _ _ _)) (grownBy_set _ _ _ _)) (grownBy_set _ _ _ _)) hR
theorem ip_body {w a : World} {P Z S : Nat} {s d t p i b n m : Value} (x : Value) (hPZ : P ≠ Z) (hPS : P ≠ S) (h : Mine w (ipVals P Z S s d t p i b n m) a) : Mine w (ipVals P Z S s d t p i x n m) (a.setCell ⟨P, 5, none⟩ x) := by
  have h1 := h.set ⟨P, 5, none⟩ b x (by simp [ipVals, ipCells])
  have e : ((ipVals P Z S s d t p i b n m).map fun y => (y.1, if (⟨P, 5, none⟩ : Addr) = y.1 then x else y.2)) = ipVals P Z S s d t p i x n m := by
    simp [ipVals, ipCells, oneCells, hPZ, hPS]
  rw [e] at h1
  exact h1
theorem ip_fresh (w : World) (Z : Value) (T U V X : TypeId) : Mine (w.alloc (.cells #[.int .i64 0, .int .i64 0, .int .i64 0, .int .i64 0, .int .i64 0, Z] X)) (ipVals (w.heap.size + 1) (w.heap.size + 1 + 1) (w.heap.size + 1 + 1 + 1) (.int .i64 0) (.int .i64 0) (.int .i64 0) (.int .i64 0) (.int .i64 0) Z (.int .i64 0) (.int .i64 0))
    ((((w.alloc (.cells #[.int .i64 0, .int .i64 0, .int .i64 0, .int .i64 0, .int .i64 0, Z] X)).alloc (.cells #[.int .i64 0, .int .i64 0, .int .i64 0, .int .i64 0, .int .i64 0, Z] T)).alloc (.cells #[.int .i64 0] U)).alloc (.cells #[.int .i64 0] V)) := by
  have hs := alloc_size w (.cells #[.int .i64 0, .int .i64 0, .int .i64 0, .int .i64 0, .int .i64 0, Z] X)
  generalize w.alloc (.cells #[.int .i64 0, .int .i64 0, .int .i64 0, .int .i64 0, .int .i64 0, Z] X) = w0 at *
  have h1 := ip_new w0 (.int .i64 0) (.int .i64 0) (.int .i64 0) (.int .i64 0) (.int .i64 0) Z T
  have hs1 := alloc_size w0 (.cells #[.int .i64 0, .int .i64 0, .int .i64 0, .int .i64 0, .int .i64 0, Z] T)
  generalize w0.alloc (.cells #[.int .i64 0, .int .i64 0, .int .i64 0, .int .i64 0, .int .i64 0, Z] T) = w1 at *
  have h2 := (one_new w1 (.int .i64 0) U).base h1.grown
  have hs2 := alloc_size w1 (.cells #[.int .i64 0] U)
  have k2 := World.grownBy_alloc w1 (.cells #[.int .i64 0] U) none
  generalize w1.alloc (.cells #[.int .i64 0] U) = w2 at *
  have h3 := (one_new w2 (.int .i64 0) V).base (grownBy_trans h1.grown k2)
  have k3 := World.grownBy_alloc w2 (.cells #[.int .i64 0] V) none
  rw [hs] at h1
  rw [hs1, hs] at h2
  rw [hs2, hs1, hs] at h3
  exact ((h1.kept (grownBy_trans k2 k3)).app (h2.kept k3)).app h3

set_option maxRecDepth 100000 in
set_option maxHeartbeats 2000000 in
theorem ip_read_any (l : List UInt8) (hl : l.length ≤ 1000000000000) (w : World) : Calls Try.prog 12 #[.string ⟨l.toArray⟩] w (IpPost w l) := by
  have HS := Lib.hid (gets_ip (w.heap.size + 1) (w.heap.size + 1 + 1) (w.heap.size + 1 + 1 + 1) l)
  have HC := Lib.hid (ip_sizes (w.heap.size + 1) (w.heap.size + 1 + 1) (w.heap.size + 1 + 1 + 1))
  have HR := Lib.hid (ip_new w (.int .i64 0) (.int .i64 0) (.int .i64 0) (.int .i64 0) (.int .i64 0) (.string ⟨#[]⟩) 25)
  have HF := Lib.hid (ip_fresh w (.string ⟨#[]⟩) 25 2 2 25)
  go_enter Try.func12, Try.ntmps12
  go_wp2_with fail
  refine (ip_parts _ _ _ _).mono ?_
  rintro e w2 ⟨pb, pc, rfl, hpb, hg, hpc⟩
  have HP := Lib.hid (And.intro hpb (And.intro hg hpc))
  clear hpb hg hpc
  go_wp2_with fail
  by_cases hst : 20 ≤ l.length ∧ getBe (l.take 2) = 17664 ∧ getBe ((l.drop 6).take 2) = 16384
  · rw [if_pos hst] at HS
    have h20 := hst.1
    clear hst
    refine (get_there pb pc _ l _ _ _ w2 _ HS.out hl HC.out.1 HC.out.2 (ip_places _ _ _ _ _ _ _ _ _ _ _) HF.out HP.out.1 HP.out.2.1 HP.out.2.2).mono ?_
    rintro e w3 ⟨rfl, hm⟩
    rw [ip_read] at hm
    obtain ⟨c0, c1, c2, c3, c4, c5⟩ := ip_facts hm.left.left
    have z5 := (ip_frees hm.left.left).2.2.2.2.2
    have n0 := (one_facts hm.left.right).1
    obtain ⟨r0, r1, r2, r3, r4, r5⟩ := ip_facts (HR.out.kept hm.grown)
    obtain ⟨y0, y1, y2, y3, y4, y5⟩ := ip_frees (HR.out.kept hm.grown)
    have H5 := Lib.hid (grownBy_trans HR.out.grown hm.grown)
    have HM := Lib.hid hm
    clear hm HP HF
    have hsz := getBe2 ((l.drop 2).take 2) (mid_len l 2 2 (by omega))
    obtain ⟨k, hk⟩ := Int.eq_ofNat_of_zero_le hsz.1
    by_cases hin : 20 ≤ k ∧ k ≤ l.length
    · obtain ⟨m, hkm⟩ : ∃ m, k = m + 20 := ⟨k - 20, by omega⟩
      have hk' : sizeIp l = (k : Int) := hk
      have hb0 : (0 : Int) ≤ (k : Int) := by omega
      have hb1 : (20 : Int) ≤ (k : Int) := by omega
      have hb2 : (k : Int) ≤ (l.length : Int) := by omega
      have hb3 : (m : Int) ≤ (l.length : Int) - 20 := by omega
      have hb4 : m ≤ (l.drop 20).length := by simp; omega
      have hwr : IntKind.i64.wrap ((k : Int) - 20) = (m : Int) := by
        rw [show (k : Int) - 20 = m by omega]
        exact IntWalk.i64_in _ (by omega)
      have HK := Lib.hid (And.intro hk' hkm)
      rw [hk'] at n0
      clear hk hsz hin hk' hkm
      go_wp2_with fail
      simp only [ext_head]
      have h4 := ip_body (.string ⟨((l.drop 20).take m).toArray⟩) (by omega) (by omega) HM.out
      rw [HK.out.1] at h4
      generalize w3.setCell ⟨w.heap.size + 1, 5, none⟩ (.string ⟨((l.drop 20).take m).toArray⟩) = w4 at *
      clear c0 c1 c2 c3 c4 c5 z5 n0 HM
      obtain ⟨c0, c1, c2, c3, c4, c5⟩ := ip_facts h4.left.left
      have n0 := (one_facts h4.left.right).1
      have HM := Lib.hid h4
      clear h4
      go_region_held3 (fun w' => w'.cell? ⟨w.heap.size + 1, 0, none⟩ = some (.int .i64 (getBe ((l.drop 12).take 4))) ∧ w'.cell? ⟨w.heap.size + 1, 1, none⟩ = some (.int .i64 (getBe ((l.drop 16).take 4))) ∧ w'.cell? ⟨w.heap.size + 1, 2, none⟩ = some (.int .i64 (getBe ((l.drop 8).take 1))) ∧ w'.cell? ⟨w.heap.size + 1, 3, none⟩ = some (.int .i64 (getBe ((l.drop 9).take 1))) ∧ w'.cell? ⟨w.heap.size + 1, 4, none⟩ = some (.int .i64 (getBe ((l.drop 4).take 2))) ∧ w'.cell? ⟨w.heap.size + 1, 5, none⟩ = some (.string ⟨((l.drop 20).take m).toArray⟩) ∧ w'.cell? ⟨w.heap.size + 1 + 1, 0, none⟩ = some (.int .i64 (k : Int)) ∧ w4.grownBy w' none) ((refine ⟨by first | assumption | (simp [*]; done), by first | assumption | (simp [*]; done), by first | assumption | (simp [*]; done), by first | assumption | (simp [*]; done), by first | assumption | (simp [*]; done), by first | assumption | (simp [*]; done), by first | assumption | (simp [*]; done), by first | assumption | exact grownBy_drew | exact grownBy_trans (by assumption) (by assumption)⟩))
        (first | (go_at_call 10; refine (ip_impl _ _ _ _ _ _ _).mono ?_; rintro e w5 ⟨rfl, hg⟩; have q0 := hg.cell (a := ⟨w.heap.size + 1, 0, none⟩) (v := .int .i64 (getBe ((l.drop 12).take 4))) (by assumption) (by simp); have q1 := hg.cell (a := ⟨w.heap.size + 1, 1, none⟩) (v := .int .i64 (getBe ((l.drop 16).take 4))) (by assumption) (by simp); have q2 := hg.cell (a := ⟨w.heap.size + 1, 2, none⟩) (v := .int .i64 (getBe ((l.drop 8).take 1))) (by assumption) (by simp); have q3 := hg.cell (a := ⟨w.heap.size + 1, 3, none⟩) (v := .int .i64 (getBe ((l.drop 9).take 1))) (by assumption) (by simp); have q4 := hg.cell (a := ⟨w.heap.size + 1, 4, none⟩) (v := .int .i64 (getBe ((l.drop 4).take 2))) (by assumption) (by simp); have q5 := hg.cell (a := ⟨w.heap.size + 1, 5, none⟩) (v := .string ⟨((l.drop 20).take m).toArray⟩) (by assumption) (by simp); have q6 := hg.cell (a := ⟨w.heap.size + 1 + 1, 0, none⟩) (v := .int .i64 (k : Int)) (by assumption) (by simp); have q7 : w4.grownBy w5 none := by first | exact grownBy_trans grownBy_drew hg | exact grownBy_trans (by assumption) hg))
      all_goals
        rename_i hH
        have H6 := Lib.hid (HM.out.kept hH.2.2.2.2.2.2.2)
        clear c0 c1 c2 c3 c4 c5 n0 hH r0 r1 r2 r3 r4 r5 y0 y1 y2 y3 y4 y5 H5
        obtain ⟨c0, c1, c2, c3, c4, c5⟩ := ip_facts H6.out.left.left
        have n0 := (one_facts H6.out.left.right).1
        obtain ⟨r0, r1, r2, r3, r4, r5⟩ := ip_facts (HR.out.kept H6.out.grown)
        obtain ⟨y0, y1, y2, y3, y4, y5⟩ := ip_frees (HR.out.kept H6.out.grown)
        have H5 := Lib.hid (grownBy_trans HR.out.grown H6.out.grown)
        have HI := Lib.hid (good_iff l k m h20 HK.out.1 HK.out.2 (by omega))
        clear q0 q1 q2 q3 q4 q5 q6 q7 hg H6 HM
        simp only [ext_head, ba_list]
        by_cases hs : ipL (getBe ((l.drop 12).take 4)) (getBe ((l.drop 16).take 4)) (getBe ((l.drop 8).take 1)) (getBe ((l.drop 9).take 1)) (getBe ((l.drop 4).take 2)) ((l.drop 20).take m) = l.take k
        · have HO := Lib.hid (HI.out.2.2 hs)
          rw [hs]
          clear hs
          simp only [beq_self_eq_true, Bool.not_true]
          go_wp2_with fail
          refine bodyPost_ret (v := .tuple #[(ipAt l).val, .bool true]) ?_ rfl (post_ip HO.out (res6_grown _ _ _ _ _ _ H5.out (Nat.le_refl _)))
          rw [HI.out.1]
          simp [results, Try.results12, go_sem, r0, r1, r2, r3, r4, r5]
        · have HO := Lib.hid (fun h => hs (HI.out.2.1 h) : ¬ ipGood l)
          generalize ipL (getBe ((l.drop 12).take 4)) (getBe ((l.drop 16).take 4)) (getBe ((l.drop 8).take 1)) (getBe ((l.drop 9).take 1)) (getBe ((l.drop 4).take 2)) ((l.drop 20).take m) = s at hs ⊢
          have hs1 : (s == l.take k) = false := by simpa using hs
          simp only [hs1, Bool.not_false]
          go_wp2_with fail
          refine bodyPost_ret (v := .tuple #[zeroI.val, .bool false]) ?_ rfl (post_noip HO.out (res6_grown _ _ _ _ _ _ H5.out (Nat.le_refl _)))
          simp [results, Try.results12, go_sem, r0, r1, r2, r3, r4, r5, zeroI, Ipk.val]
    · have HN := Lib.hid (show ¬ ipGood l by
        intro h
        have h1 := h.2.1
        have h2 := h.2.2.1
        unfold sizeIp at h1 h2
        rw [hk] at h1 h2
        omega)
      have hk' : sizeIp l = (k : Int) := hk
      rw [hk'] at n0
      by_cases hlow : (k : Int) < 20
      · clear hk hsz hin hk' HM
        go_wp2_with fail
        refine bodyPost_ret (v := .tuple #[zeroI.val, .bool false]) ?_ rfl (post_noip HN.out (res6_grown _ _ _ _ _ _ H5.out (Nat.le_refl _)))
        simp [results, Try.results12, go_sem, r0, r1, r2, r3, r4, r5, zeroI, Ipk.val]
      · have hhigh : (l.length : Int) < (k : Int) := by omega
        clear hk hsz hin hk' HM
        go_wp2_with fail
        refine bodyPost_ret (v := .tuple #[zeroI.val, .bool false]) ?_ rfl (post_noip HN.out (res6_grown _ _ _ _ _ _ H5.out (Nat.le_refl _)))
        simp [results, Try.results12, go_sem, r0, r1, r2, r3, r4, r5, zeroI, Ipk.val]
  · rw [if_neg hst] at HS
    have HN := Lib.hid (fun h => hst ⟨h.1, good_start h⟩ : ¬ ipGood l)
    clear hst
    refine (get_not pb pc _ l _ _ w2 _ HS.out hl HC.out.1 HC.out.2 (ip_places _ _ _ _ _ _ _ _ _ _ _) HF.out HP.out.1 HP.out.2.1 HP.out.2.2).mono ?_
    rintro e w3 ⟨rfl, g, hm⟩
    obtain ⟨r0, r1, r2, r3, r4, r5⟩ := ip_facts (HR.out.kept hm.grown)
    obtain ⟨y0, y1, y2, y3, y4, y5⟩ := ip_frees (HR.out.kept hm.grown)
    have H5 := Lib.hid (grownBy_trans HR.out.grown hm.grown)
    clear hm HP HF HR
    go_wp2_with fail
    refine bodyPost_ret (v := .tuple #[zeroI.val, .bool false]) ?_ rfl (post_noip HN.out (res6_grown _ _ _ _ _ _ H5.out (Nat.le_refl _)))
    simp [results, Try.results12, go_sem, r0, r1, r2, r3, r4, r5, zeroI, Ipk.val]

end Go.Proofs.Ytcbaenndkljlpaa
