/- The program's reading of a frame. -/
import Derived.Test.YtpihfhpdamjefaaFrmS
import Derived.Test.YtpihfhpdamjefaaGetF
import Derived.Deep.RegionHeld3
namespace Go.Proofs.Ytpihfhpdamjefaa
open Go.RowKit

theorem gets_if_num (a : Addr) (sz : Int) (ps : List Part) (l : List UInt8) : getsL (.num a sz :: ps) l = if sz.toNat ≤ l.length then getsL ps (l.drop sz.toNat) else none := by
  split
  · exact gets_num a sz ps l (by assumption)
  · exact gets_short _ _ _ (by assumption)
theorem gets_if_txt (a : Addr) (sz : Int) (ps : List Part) (l : List UInt8) : getsL (.txt a sz :: ps) l = if sz.toNat ≤ l.length then getsL ps (l.drop sz.toNat) else none := by
  split
  · exact gets_txt a sz ps l (by assumption)
  · exact gets_short _ _ _ (by assumption)
theorem gets_if_fix (n sz : Int) (ps : List Part) (l : List UInt8) : getsL (.fix n sz :: ps) l = if sz.toNat ≤ l.length ∧ getBe (l.take sz.toNat) = n then getsL ps (l.drop sz.toNat) else none := by
  by_cases h1 : sz.toNat ≤ l.length
  · by_cases h2 : getBe (l.take sz.toNat) = n
    · rw [if_pos ⟨h1, h2⟩]; exact gets_fix n sz ps l h1 h2
    · rw [if_neg (fun h => h2 h.2)]; exact gets_wrong n sz ps l h1 h2
  · rw [if_neg (fun h => h1 h.1)]; exact gets_short _ _ _ h1

theorem gets_frm0 (F : Nat) (l : List UInt8) : getsL (frmParts F false) l = if 14 ≤ l.length then some (l.drop 14) else none := by
  show getsL [.txt ⟨F, 0, none⟩ 6, .txt ⟨F, 1, none⟩ 6, .num ⟨F, 3, none⟩ 2] l = _
  rw [gets_if_txt, gets_if_txt, gets_if_num, getsL]
  simp only [List.drop_drop, List.length_drop, show (6 : Int).toNat = 6 from rfl, show (2 : Int).toNat = 2 from rfl]
  by_cases h : 14 ≤ l.length
  · rw [if_pos (by omega), if_pos (by omega), if_pos (by omega), if_pos h]
  · rw [if_neg h]
    by_cases h6 : 6 ≤ l.length
    · rw [if_pos h6]
      by_cases h12 : 6 ≤ l.length - 6
      · rw [if_pos h12, if_neg (by omega)]
      · rw [if_neg h12]
    · rw [if_neg h6]
theorem gets_frm1 (F : Nat) (l : List UInt8) (ht : tagL l = true) : getsL (frmParts F true) l = if 18 ≤ l.length then some (l.drop 18) else none := by
  obtain ⟨h14, h12⟩ := of_decide_eq_true ht
  show getsL [.txt ⟨F, 0, none⟩ 6, .txt ⟨F, 1, none⟩ 6, .fix 33024 2, .num ⟨F, 2, none⟩ 2, .num ⟨F, 3, none⟩ 2] l = _
  rw [gets_if_txt, gets_if_txt, gets_if_fix, gets_if_num, gets_if_num, getsL]
  simp only [List.drop_drop, List.length_drop, show (6 : Int).toNat = 6 from rfl, show (2 : Int).toNat = 2 from rfl]
  rw [if_pos (by omega), if_pos (by omega), if_pos ⟨by omega, h12⟩]
  by_cases h : 18 ≤ l.length
  · rw [if_pos (by omega), if_pos (by omega), if_pos h]
  · rw [if_neg h]
    by_cases h16 : 2 ≤ l.length - (6 + 6 + 2)
    · rw [if_pos h16, if_neg (by omega)]
    · rw [if_neg h16]

def frmCells (F : Nat) (t f : Value) (v k : Value) (b : Value) : List (Addr × Value) := [(⟨F, 0, none⟩, t), (⟨F, 1, none⟩, f), (⟨F, 2, none⟩, v), (⟨F, 3, none⟩, k), (⟨F, 4, none⟩, b)]
theorem frm_sizes (F : Nat) (tagged : Bool) : (frmParts F tagged).length ≤ 100 ∧ (∀ p ∈ frmParts F tagged, 0 ≤ p.szI ∧ p.szI ≤ 1000) := by
  cases tagged <;> simp [frmParts, Part.szI]
theorem frm_places (F : Nat) (tagged : Bool) (t f v k b : Value) : ∀ p ∈ frmParts F tagged, ∀ a, p.place = some a → ∃ u, (a, u) ∈ frmCells F t f v k b := by
  have h0 : ∃ u, ((⟨F, 0, none⟩ : Addr), u) ∈ frmCells F t f v k b := ⟨t, by simp [frmCells]⟩
  have h1 : ∃ u, ((⟨F, 1, none⟩ : Addr), u) ∈ frmCells F t f v k b := ⟨f, by simp [frmCells]⟩
  have h2 : ∃ u, ((⟨F, 2, none⟩ : Addr), u) ∈ frmCells F t f v k b := ⟨v, by simp [frmCells]⟩
  have h3 : ∃ u, ((⟨F, 3, none⟩ : Addr), u) ∈ frmCells F t f v k b := ⟨k, by simp [frmCells]⟩
  cases tagged
  all_goals
    intro p hp a ha
    simp only [frmParts, List.cons_append, List.nil_append, List.mem_cons, List.not_mem_nil, or_false, if_true, if_false, Bool.false_eq_true, List.append_nil] at hp
  · rcases hp with rfl | rfl | rfl <;> (simp only [Part.place, Option.some.injEq] at ha; subst ha; assumption)
  · rcases hp with rfl | rfl | rfl | rfl | rfl <;> first | (simp only [Part.place, Option.some.injEq] at ha; subst ha; assumption) | cases ha
theorem frm_read0 (F : Nat) (l : List UInt8) (t f v k b : Value) : ((frmCells F t f v k b).map fun x => (x.1, updL (frmParts F false) l x.1 x.2)) = frmCells F (.string ⟨(l.take 6).toArray⟩) (.string ⟨((l.drop 6).take 6).toArray⟩) v (.int .i64 (getBe ((l.drop 12).take 2))) b := by
  simp [frmCells, frmParts, updL]
theorem frm_read1 (F : Nat) (l : List UInt8) (t f v k b : Value) : ((frmCells F t f v k b).map fun x => (x.1, updL (frmParts F true) l x.1 x.2)) = frmCells F (.string ⟨(l.take 6).toArray⟩) (.string ⟨((l.drop 6).take 6).toArray⟩) (.int .i64 (getBe ((l.drop 14).take 2))) (.int .i64 (getBe ((l.drop 16).take 2))) b := by
  simp [frmCells, frmParts, updL]
theorem frm_some (F : Nat) (g : Addr → Value) (t f v k b : Value) : ∃ t' f' v' k' b', ((frmCells F t f v k b).map fun x => (x.1, g x.1)) = frmCells F t' f' v' k' b' := ⟨_, _, _, _, _, rfl⟩
theorem frm_new (w : World) (t f v k b : Value) (T : TypeId) : Mine w (frmCells w.heap.size t f v k b) (w.alloc (.cells #[t, f, v, k, b] T)) := by
  refine ⟨World.grownBy_alloc _ _ _, ?_⟩
  intro x hx
  simp only [frmCells, List.mem_cons, List.not_mem_nil, or_false] at hx
  rcases hx with rfl | rfl | rfl | rfl | rfl <;> exact ⟨by go_simp, by go_simp, by simp, rfl⟩

theorem frm_facts {w w' : World} {F : Nat} {t f v k b : Value} (hm : Mine w (frmCells F t f v k b) w') : w'.cell? ⟨F, 0, none⟩ = some t ∧ w'.cell? ⟨F, 1, none⟩ = some f ∧ w'.cell? ⟨F, 2, none⟩ = some v ∧ w'.cell? ⟨F, 3, none⟩ = some k ∧ w'.cell? ⟨F, 4, none⟩ = some b ∧ w'.frozen? ⟨F, 4, none⟩ = false :=
  ⟨hm.cell _ _ (by simp [frmCells]), hm.cell _ _ (by simp [frmCells]), hm.cell _ _ (by simp [frmCells]), hm.cell _ _ (by simp [frmCells]), hm.cell _ _ (by simp [frmCells]), hm.free ⟨F, 4, none⟩ b (by simp [frmCells])⟩
theorem frm_frees {w w' : World} {F : Nat} {t f v k b : Value} (hm : Mine w (frmCells F t f v k b) w') : w'.frozen? ⟨F, 0, none⟩ = false ∧ w'.frozen? ⟨F, 1, none⟩ = false ∧ w'.frozen? ⟨F, 2, none⟩ = false ∧ w'.frozen? ⟨F, 3, none⟩ = false ∧ w'.frozen? ⟨F, 4, none⟩ = false :=
  ⟨hm.free ⟨F, 0, none⟩ t (by simp [frmCells]), hm.free ⟨F, 1, none⟩ f (by simp [frmCells]), hm.free ⟨F, 2, none⟩ v (by simp [frmCells]), hm.free ⟨F, 3, none⟩ k (by simp [frmCells]), hm.free ⟨F, 4, none⟩ b (by simp [frmCells])⟩
theorem frm_body (F : Nat) (t f v k b x : Value) : ((frmCells F t f v k b).map fun y => (y.1, if (⟨F, 4, none⟩ : Addr) = y.1 then x else y.2)) = frmCells F t f v k x := by simp [frmCells]
theorem mine_self {w a b : World} {cs : List (Addr × Value)} (h : Mine w cs a) (hg : a.grownBy b none) : Mine w cs b := h.kept hg
/-- What is stored into the place of the answer. -/
theorem res_grown {w a : World} {R : Nat} (t f v k b : Value) (h : w.grownBy a none) (hR : w.heap.size ≤ R) : w.grownBy (((((a.setCell ⟨R, 0, none⟩ t).setCell ⟨R, 1, none⟩ f).setCell ⟨R, 2, none⟩ v).setCell ⟨R, 3, none⟩ k).setCell ⟨R, 4, none⟩ b) none :=
  grownBy_new h (grownBy_trans (grownBy_trans (grownBy_trans (grownBy_trans (grownBy_set _ _ _ _) (grownBy_set _ _ _ _)) (grownBy_set _ _ _ _)) (grownBy_set _ _ _ _)) (grownBy_set _ _ _ _)) hR

set_option maxRecDepth 100000 in
set_option maxHeartbeats 2000000 in
theorem frame_read0 (l : List UInt8) (hl : l.length ≤ 1000000000000) (ht : tagL l = false) (w : World) : Calls Try.prog 11 #[.string ⟨l.toArray⟩] w (FrmPost w l) := by
  have HT := Lib.hid ht
  have HS := Lib.hid (gets_frm0 (w.heap.size + 1) l)
  have HC := Lib.hid (frm_sizes (w.heap.size + 1) false)
  have hR := frm_new w (.string ⟨#[]⟩) (.string ⟨#[]⟩) (.int .i64 0) (.int .i64 0) (.string ⟨#[]⟩) 25
  have hM := frm_new (w.alloc (.cells #[.string ⟨#[]⟩, .string ⟨#[]⟩, .int .i64 0, .int .i64 0, .string ⟨#[]⟩] 25)) (.string ⟨#[]⟩) (.string ⟨#[]⟩) (.int .i64 (-1)) (.int .i64 0) (.string ⟨#[]⟩) 25
  rw [alloc_size] at hM
  have HR := Lib.hid hR
  clear ht hR
  by_cases h14 : 14 ≤ l.length
  · rw [if_pos h14] at HS
    go_enter Try.func11, Try.ntmps11
    go_wp2_with fail
    refine (tag_any _ _).mono ?_
    rintro e w1 ⟨rfl, hg⟩
    rw [HT.out]
    have HM := Lib.hid (hM.kept hg)
    clear hg hM
    go_wp2_with fail
    refine (frm_parts0 _ _).mono ?_
    rintro e w2 ⟨pb, pc, rfl, hpb, hg, hpc⟩
    have HP := Lib.hid (And.intro hpb (And.intro hg hpc))
    clear hpb hg hpc
    go_wp2_with fail
    refine (get_there pb pc _ l _ _ w1 w2 _ HS.out hl HC.out.1 HC.out.2 (frm_places _ _ _ _ _ _ _) HM.out HP.out.1 HP.out.2.1 HP.out.2.2).mono ?_
    rintro e w3 ⟨rfl, hm⟩
    rw [frm_read0] at hm
    obtain ⟨c0, c1, c2, c3, c4, z4⟩ := frm_facts hm
    have hm4 := hm.set ⟨w.heap.size + 1, 4, none⟩ _ (.string ⟨(l.drop 14).toArray⟩) (by simp only [frmCells]; exact .tail _ (.tail _ (.tail _ (.tail _ (.head _)))))
    rw [frm_body] at hm4
    have H4 := Lib.hid hm4
    clear hm hm4 HM HP
    go_wp2_with fail
    refine (frame_ok_impl _ _ _ _ _ _).mono ?_
    rintro e w4 ⟨rfl, hg⟩
    have h5 := H4.out.kept hg
    clear hg c0 c1 c2 c3 c4 z4 H4
    obtain ⟨c0, c1, c2, c3, c4, _⟩ := frm_facts h5
    obtain ⟨r0, r1, r2, r3, r4, _⟩ := frm_facts (HR.out.kept h5.grown)
    obtain ⟨z0, z1, z2, z3, z4⟩ := frm_frees (HR.out.kept h5.grown)
    have H5 := Lib.hid (grownBy_trans (World.grownBy_alloc w _ none) h5.grown)
    clear h5 HR
    have hq : readOk l ↔ frameOk (l.take 6) ((l.drop 6).take 6) (-1) (getBe ((l.drop 12).take 2)) (l.drop 14) := by
      unfold readOk frmAt Frm.ok
      rw [HT.out]
      simp [h14]
    have hv : frmAt l = ⟨l.take 6, (l.drop 6).take 6, -1, getBe ((l.drop 12).take 2), l.drop 14⟩ := by rw [frmAt, HT.out]; rfl
    by_cases hok : readOk l
    · have HO := Lib.hid (And.intro hok (decide_eq_true (hq.1 hok)))
      have HV := Lib.hid hv
      clear hq hok hv
      rw [HO.out.2]
      go_wp2_with fail
      refine bodyPost_ret (v := .tuple #[(frmAt l).val, .bool true]) ?_ rfl (post_frm HO.out.1 (res_grown _ _ _ _ _ H5.out (Nat.le_refl _)))
      rw [HV.out]
      simp [results, Try.results11, go_sem, r0, r1, r2, r3, r4]
    · have HO := Lib.hid (And.intro hok (decide_eq_false (fun h => hok (hq.2 h))))
      clear hq hok hv
      rw [HO.out.2]
      go_wp2_with fail
      refine bodyPost_ret (v := .tuple #[zeroF.val, .bool false]) ?_ rfl (post_zero HO.out.1 (res_grown _ _ _ _ _ H5.out (Nat.le_refl _)))
      simp [results, Try.results11, go_sem, r0, r1, r2, r3, r4, zeroF, Frm.val]
  · rw [if_neg h14] at HS
    have hr : ¬ readOk l := by
      intro h
      have := h.1
      rw [HT.out] at this
      simp at this
      omega
    have HN := Lib.hid hr
    clear hr
    go_enter Try.func11, Try.ntmps11
    go_wp2_with fail
    refine (tag_any _ _).mono ?_
    rintro e w1 ⟨rfl, hg⟩
    rw [HT.out]
    have HM := Lib.hid (hM.kept hg)
    clear hg hM
    go_wp2_with fail
    refine (frm_parts0 _ _).mono ?_
    rintro e w2 ⟨pb, pc, rfl, hpb, hg, hpc⟩
    have HP := Lib.hid (And.intro hpb (And.intro hg hpc))
    clear hpb hg hpc
    go_wp2_with fail
    refine (get_not pb pc _ l _ w1 w2 _ HS.out hl HC.out.1 HC.out.2 (frm_places _ _ _ _ _ _ _) HM.out HP.out.1 HP.out.2.1 HP.out.2.2).mono ?_
    rintro e w3 ⟨rfl, g, hm⟩
    obtain ⟨t', f', v', k', b', he⟩ := frm_some (w.heap.size + 1) g (.string ⟨#[]⟩) (.string ⟨#[]⟩) (.int .i64 (-1)) (.int .i64 0) (.string ⟨#[]⟩)
    rw [he] at hm
    obtain ⟨c0, c1, c2, c3, c4, z4⟩ := frm_facts hm
    have hm4 := hm.set ⟨w.heap.size + 1, 4, none⟩ _ (.string ⟨#[]⟩) (by simp only [frmCells]; exact .tail _ (.tail _ (.tail _ (.tail _ (.head _)))))
    obtain ⟨r0, r1, r2, r3, r4, _⟩ := frm_facts (HR.out.kept hm4.grown)
    obtain ⟨z0, z1, z2, z3, z5⟩ := frm_frees (HR.out.kept hm4.grown)
    have H5 := Lib.hid (grownBy_trans (World.grownBy_alloc w _ none) hm4.grown)
    clear hm hm4 HM HP HR he
    go_wp2_with fail
    refine bodyPost_ret (v := .tuple #[zeroF.val, .bool false]) ?_ rfl (post_zero HN.out (res_grown _ _ _ _ _ H5.out (Nat.le_refl _)))
    simp [results, Try.results11, go_sem, r0, r1, r2, r3, r4, zeroF, Frm.val]

set_option maxRecDepth 100000 in
set_option maxHeartbeats 2000000 in
theorem frame_read1 (l : List UInt8) (hl : l.length ≤ 1000000000000) (ht : tagL l = true) (w : World) : Calls Try.prog 11 #[.string ⟨l.toArray⟩] w (FrmPost w l) := by
  have HT := Lib.hid ht
  have HS := Lib.hid (gets_frm1 (w.heap.size + 1) l ht)
  have HC := Lib.hid (frm_sizes (w.heap.size + 1) true)
  have hR := frm_new w (.string ⟨#[]⟩) (.string ⟨#[]⟩) (.int .i64 0) (.int .i64 0) (.string ⟨#[]⟩) 25
  have hM := frm_new (w.alloc (.cells #[.string ⟨#[]⟩, .string ⟨#[]⟩, .int .i64 0, .int .i64 0, .string ⟨#[]⟩] 25)) (.string ⟨#[]⟩) (.string ⟨#[]⟩) (.int .i64 (-1)) (.int .i64 0) (.string ⟨#[]⟩) 25
  rw [alloc_size] at hM
  have HR := Lib.hid hR
  clear ht hR
  by_cases h14 : 18 ≤ l.length
  · rw [if_pos h14] at HS
    go_enter Try.func11, Try.ntmps11
    go_wp2_with fail
    refine (tag_any _ _).mono ?_
    rintro e w1 ⟨rfl, hg⟩
    rw [HT.out]
    have HM := Lib.hid (hM.kept hg)
    clear hg hM
    go_wp2_with fail
    refine (frm_parts1 _ _).mono ?_
    rintro e w2 ⟨pb, pc, rfl, hpb, hg, hpc⟩
    have HP := Lib.hid (And.intro hpb (And.intro hg hpc))
    clear hpb hg hpc
    go_wp2_with fail
    refine (get_there pb pc _ l _ _ w1 w2 _ HS.out hl HC.out.1 HC.out.2 (frm_places _ _ _ _ _ _ _) HM.out HP.out.1 HP.out.2.1 HP.out.2.2).mono ?_
    rintro e w3 ⟨rfl, hm⟩
    rw [frm_read1] at hm
    obtain ⟨c0, c1, c2, c3, c4, z4⟩ := frm_facts hm
    have hm4 := hm.set ⟨w.heap.size + 1, 4, none⟩ _ (.string ⟨(l.drop 18).toArray⟩) (by simp only [frmCells]; exact .tail _ (.tail _ (.tail _ (.tail _ (.head _)))))
    rw [frm_body] at hm4
    have H4 := Lib.hid hm4
    clear hm hm4 HM HP
    go_wp2_with fail
    refine (frame_ok_impl _ _ _ _ _ _).mono ?_
    rintro e w4 ⟨rfl, hg⟩
    have h5 := H4.out.kept hg
    clear hg c0 c1 c2 c3 c4 z4 H4
    obtain ⟨c0, c1, c2, c3, c4, _⟩ := frm_facts h5
    obtain ⟨r0, r1, r2, r3, r4, _⟩ := frm_facts (HR.out.kept h5.grown)
    obtain ⟨z0, z1, z2, z3, z4⟩ := frm_frees (HR.out.kept h5.grown)
    have H5 := Lib.hid (grownBy_trans (World.grownBy_alloc w _ none) h5.grown)
    clear h5 HR
    have hq : readOk l ↔ frameOk (l.take 6) ((l.drop 6).take 6) (getBe ((l.drop 14).take 2)) (getBe ((l.drop 16).take 2)) (l.drop 18) := by
      unfold readOk frmAt Frm.ok
      rw [HT.out]
      simp [h14]
    have hv : frmAt l = ⟨l.take 6, (l.drop 6).take 6, getBe ((l.drop 14).take 2), getBe ((l.drop 16).take 2), l.drop 18⟩ := by rw [frmAt, HT.out]; rfl
    by_cases hok : readOk l
    · have HO := Lib.hid (And.intro hok (decide_eq_true (hq.1 hok)))
      have HV := Lib.hid hv
      clear hq hok hv
      rw [HO.out.2]
      go_wp2_with fail
      refine bodyPost_ret (v := .tuple #[(frmAt l).val, .bool true]) ?_ rfl (post_frm HO.out.1 (res_grown _ _ _ _ _ H5.out (Nat.le_refl _)))
      rw [HV.out]
      simp [results, Try.results11, go_sem, r0, r1, r2, r3, r4]
    · have HO := Lib.hid (And.intro hok (decide_eq_false (fun h => hok (hq.2 h))))
      clear hq hok hv
      rw [HO.out.2]
      go_wp2_with fail
      refine bodyPost_ret (v := .tuple #[zeroF.val, .bool false]) ?_ rfl (post_zero HO.out.1 (res_grown _ _ _ _ _ H5.out (Nat.le_refl _)))
      simp [results, Try.results11, go_sem, r0, r1, r2, r3, r4, zeroF, Frm.val]
  · rw [if_neg h14] at HS
    have hr : ¬ readOk l := by
      intro h
      have := h.1
      rw [HT.out] at this
      simp at this
      omega
    have HN := Lib.hid hr
    clear hr
    go_enter Try.func11, Try.ntmps11
    go_wp2_with fail
    refine (tag_any _ _).mono ?_
    rintro e w1 ⟨rfl, hg⟩
    rw [HT.out]
    have HM := Lib.hid (hM.kept hg)
    clear hg hM
    go_wp2_with fail
    refine (frm_parts1 _ _).mono ?_
    rintro e w2 ⟨pb, pc, rfl, hpb, hg, hpc⟩
    have HP := Lib.hid (And.intro hpb (And.intro hg hpc))
    clear hpb hg hpc
    go_wp2_with fail
    refine (get_not pb pc _ l _ w1 w2 _ HS.out hl HC.out.1 HC.out.2 (frm_places _ _ _ _ _ _ _) HM.out HP.out.1 HP.out.2.1 HP.out.2.2).mono ?_
    rintro e w3 ⟨rfl, g, hm⟩
    obtain ⟨t', f', v', k', b', he⟩ := frm_some (w.heap.size + 1) g (.string ⟨#[]⟩) (.string ⟨#[]⟩) (.int .i64 (-1)) (.int .i64 0) (.string ⟨#[]⟩)
    rw [he] at hm
    obtain ⟨c0, c1, c2, c3, c4, z4⟩ := frm_facts hm
    have hm4 := hm.set ⟨w.heap.size + 1, 4, none⟩ _ (.string ⟨#[]⟩) (by simp only [frmCells]; exact .tail _ (.tail _ (.tail _ (.tail _ (.head _)))))
    obtain ⟨r0, r1, r2, r3, r4, _⟩ := frm_facts (HR.out.kept hm4.grown)
    obtain ⟨z0, z1, z2, z3, z5⟩ := frm_frees (HR.out.kept hm4.grown)
    have H5 := Lib.hid (grownBy_trans (World.grownBy_alloc w _ none) hm4.grown)
    clear hm hm4 HM HP HR he
    go_wp2_with fail
    refine bodyPost_ret (v := .tuple #[zeroF.val, .bool false]) ?_ rfl (post_zero HN.out (res_grown _ _ _ _ _ H5.out (Nat.le_refl _)))
    simp [results, Try.results11, go_sem, r0, r1, r2, r3, r4, zeroF, Frm.val]

theorem frame_read (l : List UInt8) (hl : l.length ≤ 1000000000000) (w : World) : Calls Try.prog 11 #[.string ⟨l.toArray⟩] w (FrmPost w l) := by
  cases ht : tagL l
  · exact frame_read0 l hl ht w
  · exact frame_read1 l hl ht w

end Go.Proofs.Ytpihfhpdamjefaa
