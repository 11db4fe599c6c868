/- The program's reading of a head by a list of parts. -/
import Derived.Test.YthfhffcimjolgaaPart
import Derived.BigQuiet
namespace Go.Proofs.Ythfhffcimjolgaa
open Go.RowKit

def Part.sz : Part → Nat
  | .fix _ sz => sz.toNat
  | .num _ sz => sz.toNat
  | .txt _ sz => sz.toNat
def Part.szI : Part → Int
  | .fix _ sz => sz
  | .num _ sz => sz
  | .txt _ sz => sz

/-- What stands behind the parts; none: they are not there. -/
def getsL : List Part → List UInt8 → Option (List UInt8)
  | [], l => some l
  | p :: ps, l => if p.sz ≤ l.length then (match p with
    | .fix n _ => if getBe (l.take p.sz) = n then getsL ps (l.drop p.sz) else none
    | .num _ _ => getsL ps (l.drop p.sz)
    | .txt _ _ => getsL ps (l.drop p.sz)) else none

theorem gets_short (p : Part) (ps : List Part) (l : List UInt8) (h : ¬ p.sz ≤ l.length) : getsL (p :: ps) l = none := by unfold getsL; rw [if_neg h]
theorem gets_fix (n sz : Int) (ps : List Part) (l : List UInt8) (h : sz.toNat ≤ l.length) (hv : getBe (l.take sz.toNat) = n) : getsL (.fix n sz :: ps) l = getsL ps (l.drop sz.toNat) := by
  rw [getsL, if_pos (show (Part.fix n sz).sz ≤ l.length from h)]
  show (if getBe (l.take sz.toNat) = n then _ else _) = _
  rw [if_pos hv]
  rfl
theorem gets_wrong (n sz : Int) (ps : List Part) (l : List UInt8) (h : sz.toNat ≤ l.length) (hv : ¬ getBe (l.take sz.toNat) = n) : getsL (.fix n sz :: ps) l = none := by
  rw [getsL, if_pos (show (Part.fix n sz).sz ≤ l.length from h)]
  show (if getBe (l.take sz.toNat) = n then _ else _) = _
  rw [if_neg hv]
theorem gets_num (a : Addr) (sz : Int) (ps : List Part) (l : List UInt8) (h : sz.toNat ≤ l.length) : getsL (.num a sz :: ps) l = getsL ps (l.drop sz.toNat) := by
  rw [getsL, if_pos (show (Part.num a sz).sz ≤ l.length from h)]
  rfl
theorem gets_txt (a : Addr) (sz : Int) (ps : List Part) (l : List UInt8) (h : sz.toNat ≤ l.length) : getsL (.txt a sz :: ps) l = getsL ps (l.drop sz.toNat) := by
  rw [getsL, if_pos (show (Part.txt a sz).sz ≤ l.length from h)]
  rfl

def GetRelP (ps : List Part) (l : List UInt8) (P : Nat → List UInt8 → World → Prop) (s i : Value) (wr : World) : Prop :=
  ∃ (j : Nat) (r : List UInt8), j ≤ ps.length ∧ i = .int .i64 j ∧ s = .string ⟨r.toArray⟩ ∧ r.length ≤ l.length ∧ getsL (ps.drop j) r = getsL ps l ∧ P j r wr

def GetPost (ps : List Part) (l : List UInt8) (P : Nat → List UInt8 → World → Prop) (e : Ending) (w' : World) : Prop :=
  match getsL ps l with
  | some r => e = .returned (.tuple #[.string ⟨r.toArray⟩, .bool true]) ∧ P ps.length r w'
  | none => e = .returned (.tuple #[.string ⟨#[]⟩, .bool false]) ∧ ∃ j r, P j r w'

theorem extract_mid (t : List UInt8) (a b : Nat) (_h : a ≤ b) : (⟨t.toArray⟩ : ByteArray).extract a b = ⟨((t.drop a).take (b - a)).toArray⟩ := by
  refine ba_of ?_
  rw [Lib.extract_data]
theorem getB_take (r : List UInt8) (k : Nat) : (({ data := r.toArray } : ByteArray).extract 0 k).data.toList = r.take k := by
  rw [extract_mid _ _ _ (Nat.zero_le _)]; simp
theorem get_q (r : List UInt8) (k : Nat) (w : World) (n : Nat) (hr : r.length ≤ 1000000000000) : Calls Try.prog 45 #[.string (({ data := r.toArray } : ByteArray).extract 0 k)] (w.drewN n) fun e w'' => e = .returned (.int .i64 (getBe (r.take k))) ∧ ∃ m, w'' = w.drewN m := by
  refine (get_impl _ _ ?_).mono fun _ _ ⟨he, hw⟩ => ⟨by rw [he, getB_take], n, hw.symm⟩
  have : (({ data := r.toArray } : ByteArray).extract 0 k).data.toList.length ≤ r.length := by rw [getB_take]; simp; omega
  rw [len_data] at this
  exact le_max (by omega)

theorem post_none {ps : List Part} {l r : List UInt8} {P : Nat → List UInt8 → World → Prop} {j : Nat} {w' : World} (h : getsL ps l = none) (hP : P j r w') : GetPost ps l P (.returned (.tuple #[.string ⟨#[]⟩, .bool false])) w' := by
  unfold GetPost
  rw [h]
  exact ⟨rfl, j, r, hP⟩
theorem post_some {ps : List Part} {l r : List UInt8} {P : Nat → List UInt8 → World → Prop} {w' : World} (h : getsL ps l = some r) (hP : P ps.length r w') : GetPost ps l P (.returned (.tuple #[.string ⟨r.toArray⟩, .bool true])) w' := by
  unfold GetPost
  rw [h]
  exact ⟨rfl, hP⟩
theorem str_drop (r : List UInt8) (k : Nat) : Value.string (({ data := r.toArray } : ByteArray).extract k r.length) = .string ⟨(r.drop k).toArray⟩ := by
  congr 1
  refine ba_of ?_
  rw [Lib.extract_data]
  exact List.take_of_length_le (by simp)
theorem str_take (r : List UInt8) (k : Nat) : Value.string (({ data := r.toArray } : ByteArray).extract 0 k) = .string ⟨(r.take k).toArray⟩ := by
  congr 1
  exact ba_of (getB_take r k)
theorem get_still (r : List UInt8) (k : Nat) (w : World) (hr : r.length ≤ 1000000000000) : Calls Try.prog 45 #[.string (({ data := r.toArray } : ByteArray).extract 0 k)] w fun e w'' => e = .returned (.int .i64 (getBe (r.take k))) ∧ w'' = w := by
  refine (get_impl _ _ ?_).mono fun _ _ ⟨he, hw⟩ => ⟨by rw [he, getB_take], hw.symm⟩
  have : (({ data := r.toArray } : ByteArray).extract 0 k).data.toList.length ≤ r.length := by rw [getB_take]; simp; omega
  rw [len_data] at this
  exact le_max (by omega)

set_option maxRecDepth 100000 in
theorem wid_fix (n sz : Int) (w : World) : Calls Try.prog 75 #[.agg #[.int .i64 n, .int .i64 sz]] w fun e w' => e = .returned (.int .i64 sz) ∧ w.grownBy w' none := by
  go_enter Try.func75, Try.ntmps75
  go_wp2
  go_ret
  exact ⟨rfl, World.grownBy_alloc _ _ _⟩

set_option maxRecDepth 100000 in
theorem wid_num (a : Addr) (sz : Int) (w : World) : Calls Try.prog 76 #[.agg #[.pointer (some a), .int .i64 sz]] w fun e w' => e = .returned (.int .i64 sz) ∧ w.grownBy w' none := by
  go_enter Try.func76, Try.ntmps76
  go_wp2
  go_ret
  exact ⟨rfl, World.grownBy_alloc _ _ _⟩

set_option maxRecDepth 100000 in
theorem wid_txt (a : Addr) (sz : Int) (w : World) : Calls Try.prog 77 #[.agg #[.pointer (some a), .int .i64 sz]] w fun e w' => e = .returned (.int .i64 sz) ∧ w.grownBy w' none := by
  go_enter Try.func77, Try.ntmps77
  go_wp2
  go_ret
  exact ⟨rfl, World.grownBy_alloc _ _ _⟩

set_option maxRecDepth 100000 in
set_option maxHeartbeats 2000000 in
theorem get_parts (b c : Nat) (ps : List Part) (l : List UInt8) (w : World) (P : Nat → List UInt8 → World → Prop) (hl : l.length ≤ 1000000000000) (hn : ps.length ≤ 100) (hz : ∀ p ∈ ps, 0 ≤ p.szI ∧ p.szI ≤ 1000)
    (h0 : P 0 l w)
    (hg : ∀ j r w1 w2, P j r w1 → w1.grownBy w2 none → P j r w2)
    (hc : ∀ j r w1 (h : j < ps.length), P j r w1 → w1.cell? ⟨b, j, none⟩ = some ps[j].val)
    (hf : ∀ j r w1 n sz (h : j < ps.length), ps[j] = .fix n sz → sz.toNat ≤ r.length → P j r w1 → P (j + 1) (r.drop sz.toNat) w1)
    (hm : ∀ j r w1 a sz (h : j < ps.length), ps[j] = .num a sz → sz.toNat ≤ r.length → P j r w1 → (∃ v, w1.cell? a = some v) ∧ w1.frozen? a = false ∧ P (j + 1) (r.drop sz.toNat) (w1.setCell a (.int .i64 (getBe (r.take sz.toNat)))))
    (ht : ∀ j r w1 a sz (h : j < ps.length), ps[j] = .txt a sz → sz.toNat ≤ r.length → P j r w1 → (∃ v, w1.cell? a = some v) ∧ w1.frozen? a = false ∧ P (j + 1) (r.drop sz.toNat) (w1.setCell a (.string ⟨(r.take sz.toNat).toArray⟩))) :
    Calls Try.prog 25 #[.string ⟨l.toArray⟩, .slice (some ⟨b, 0, none⟩) ps.length c] w (GetPost ps l P) := by
  have HZ := Lib.hid hz
  have H0 := Lib.hid h0
  have HG := Lib.hid hg
  have HC := Lib.hid hc
  have HF := Lib.hid hf
  have HM := Lib.hid hm
  have HT := Lib.hid ht
  clear hz h0 hg hc hf hm ht
  go_enter Try.func25, Try.ntmps25
  go_wp2_with fail
  go_loopw [0, 14] (fun s i wr => GetRelP ps l P s i wr) (fun _ i _ => ps.length - (intOf i).toNat)
  case atStart => exact ⟨0, l, Nat.zero_le _, rfl, rfl, Nat.le_refl _, rfl, H0.out⟩
  case round =>
    obtain ⟨j, r, hj, rfl, rfl, hr, hq, hp⟩ := hrel
    have HQ := Lib.hid hq
    have HP := Lib.hid hp
    clear hq hp
    by_cases hlt : j < ps.length
    · have hcj := HC.out j r _ hlt HP.out
      have HS := Lib.hid (HZ.out ps[j] (List.getElem_mem hlt))
      have HD := Lib.hid (List.drop_eq_getElem_cons hlt)
      have HF1 := Lib.hid (fun w1 n sz => HF.out j r w1 n sz hlt)
      have HM1 := Lib.hid (fun w1 a sz => HM.out j r w1 a sz hlt)
      have HT1 := Lib.hid (fun w1 a sz => HT.out j r w1 a sz hlt)
      generalize ps[j] = p at hcj HS HD HF1 HM1 HT1
      have hlt' : (j : Int) < (ps.length : Int) := by omega
      cases p with
      | fix n sz =>
        have hs := HS.out
        simp only [Part.szI] at hs
        obtain ⟨k, rfl⟩ := Int.eq_ofNat_of_zero_le hs.1
        simp only [Part.val] at hcj
        go_wp2_with fail
        refine (wid_fix _ _ _).mono ?_
        rintro e w1 ⟨rfl, hg⟩
        have H1 := Lib.hid (HG.out _ _ _ _ HP.out hg)
        clear hg
        by_cases hk : k ≤ r.length
        · go_wp2_with fail
          refine (wid_fix _ _ _).mono ?_
          rintro e w2 ⟨rfl, hg⟩
          have H2 := Lib.hid (HG.out _ _ _ _ H1.out hg)
          clear hg
          go_wp2_with fail
          refine (wid_fix _ _ _).mono ?_
          rintro e w3 ⟨rfl, hg⟩
          have H3 := Lib.hid (HG.out _ _ _ _ H2.out hg)
          clear hg
          have HA := Lib.hid (HG.out _ _ _ _ H3.out (World.grownBy_alloc w3 (.cells #[.int .i64 n, .int .i64 (k : Int)] 79) none))
          have hr' : r.length ≤ 1000000000000 := by omega
          by_cases hv : getBe (r.take k) = n
          · go_wp2_with fail
            go_quiet ((go_at_call 45; exact get_q r k _ _ hr'))
            go_wp2_with fail
            refine ⟨⟨j + 1, r.drop k, by omega, by go_num, str_drop r k, by simp; omega, ?_, ?_⟩, by simp [intOf]; omega⟩
            · rw [← HQ.out, HD.out, gets_fix n k _ r (by simpa using hk) (by simpa using hv)]; rfl
            · exact HG.out _ _ _ _ (HF1.out _ n k rfl (by simpa using hk) HA.out) (grownBy_drewN nq)
          · go_wp2_with fail
            go_quiet ((go_at_call 45; exact get_q r k _ _ hr'))
            go_wp2_with fail
            refine bodyPost_ret (v := .tuple #[.string ⟨#[]⟩, .bool false]) (by simp [results, Try.results25, go_sem]) rfl (post_none ?_ (HG.out _ _ _ _ HA.out (grownBy_drewN nq)))
            rw [← HQ.out, HD.out, gets_wrong n k _ r (by simpa using hk) (by simpa using hv)]
        · go_wp2_with fail
          refine bodyPost_ret (v := .tuple #[.string ⟨#[]⟩, .bool false]) (by simp [results, Try.results25, go_sem]) rfl (post_none ?_ H1.out)
          rw [← HQ.out, HD.out, gets_short _ _ r (by simpa [Part.sz] using hk)]
      | num a sz =>
        have hs := HS.out
        simp only [Part.szI] at hs
        obtain ⟨k, rfl⟩ := Int.eq_ofNat_of_zero_le hs.1
        simp only [Part.val] at hcj
        go_wp2_with fail
        refine (wid_num _ _ _).mono ?_
        rintro e w1 ⟨rfl, hg⟩
        have H1 := Lib.hid (HG.out _ _ _ _ HP.out hg)
        clear hg
        by_cases hk : k ≤ r.length
        · go_wp2_with fail
          refine (wid_num _ _ _).mono ?_
          rintro e w2 ⟨rfl, hg⟩
          have H2 := Lib.hid (HG.out _ _ _ _ H1.out hg)
          clear hg
          go_wp2_with fail
          refine (wid_num _ _ _).mono ?_
          rintro e w3 ⟨rfl, hg⟩
          have H3 := Lib.hid (HG.out _ _ _ _ H2.out hg)
          clear hg
          have HA := Lib.hid (HG.out _ _ _ _ H3.out (World.grownBy_alloc w3 (.cells #[.pointer (some a), .int .i64 (k : Int)] 82) none))
          have hr' : r.length ≤ 1000000000000 := by omega
          have hf0 : (w3.alloc (.cells #[.pointer (some a), .int .i64 (k : Int)] 82)).drew.cell? ⟨w3.heap.size, 0, none⟩ = some (.pointer (some a)) := by go_simp
          have hf1 : (w3.alloc (.cells #[.pointer (some a), .int .i64 (k : Int)] 82)).drew.cell? ⟨w3.heap.size, 1, none⟩ = some (.int .i64 (k : Int)) := by go_simp
          have HX := Lib.hid (HG.out _ _ _ _ HA.out (grownBy_drewN (a := w3.alloc (.cells #[.pointer (some a), .int .i64 (k : Int)] 82)) (r := none) 1))
          change Hid (P j r (w3.alloc (.cells #[.pointer (some a), .int .i64 (k : Int)] 82)).drew) at HX
          clear HA
          go_wp2_with fail
          generalize hw9 : w3.alloc (.cells #[.pointer (some a), .int .i64 (k : Int)] 82) = w9 at hf0 hf1 HX ⊢
          clear hw9
          refine wp_region_still_tail 5 (by kernel_rfl) (by kernel_rfl) ?_
          change wpStill _ _ w9.drew (fun a' => wpList _ _ _ _ a' w9.drew) _ _
          simp only [List.take_succ_cons, List.take_zero, List.drop_succ_cons, List.drop_zero]
          generalize w9.drew = w8 at hf0 hf1 HX ⊢
          obtain ⟨⟨v, hv⟩, hfz, hP⟩ := HM1.out w8 a k rfl (by simpa using hk) HX.out
          have HW := Lib.hid hP
          clear hP
          still_step
          still_step
          still_step
          still_call (get_still r k w8 hr')
          still_step
          refine wpStill_nil ?_
          go_wp2_with fail
          refine ⟨⟨j + 1, r.drop k, by omega, by go_num, str_drop r k, by simp; omega, ?_, HW.out⟩, by simp [intOf]; omega⟩
          rw [← HQ.out, HD.out, gets_num a k _ r (by simpa using hk)]
          rfl
        · go_wp2_with fail
          refine bodyPost_ret (v := .tuple #[.string ⟨#[]⟩, .bool false]) (by simp [results, Try.results25, go_sem]) rfl (post_none ?_ H1.out)
          rw [← HQ.out, HD.out, gets_short _ _ r (by simpa [Part.sz] using hk)]
      | txt a sz =>
        have hs := HS.out
        simp only [Part.szI] at hs
        obtain ⟨k, rfl⟩ := Int.eq_ofNat_of_zero_le hs.1
        simp only [Part.val] at hcj
        go_wp2_with fail
        refine (wid_txt _ _ _).mono ?_
        rintro e w1 ⟨rfl, hg⟩
        have H1 := Lib.hid (HG.out _ _ _ _ HP.out hg)
        clear hg
        by_cases hk : k ≤ r.length
        · go_wp2_with fail
          refine (wid_txt _ _ _).mono ?_
          rintro e w2 ⟨rfl, hg⟩
          have H2 := Lib.hid (HG.out _ _ _ _ H1.out hg)
          clear hg
          go_wp2_with fail
          refine (wid_txt _ _ _).mono ?_
          rintro e w3 ⟨rfl, hg⟩
          have H3 := Lib.hid (HG.out _ _ _ _ H2.out hg)
          clear hg
          have HA := Lib.hid (HG.out _ _ _ _ H3.out (World.grownBy_alloc w3 (.cells #[.pointer (some a), .int .i64 (k : Int)] 85) none))
          have hr' : r.length ≤ 1000000000000 := by omega
          obtain ⟨⟨v, hv⟩, hfz, hP⟩ := HT1.out _ a k rfl (by simpa using hk) HA.out
          have HW := Lib.hid hP
          clear hP
          rw [← str_take] at HW
          go_wp2_with fail
          refine ⟨⟨j + 1, r.drop k, by omega, by go_num, str_drop r k, by simp; omega, ?_, HW.out⟩, by simp [intOf]; omega⟩
          rw [← HQ.out, HD.out, gets_txt a k _ r (by simpa using hk)]
          rfl
        · go_wp2_with fail
          refine bodyPost_ret (v := .tuple #[.string ⟨#[]⟩, .bool false]) (by simp [results, Try.results25, go_sem]) rfl (post_none ?_ H1.out)
          rw [← HQ.out, HD.out, gets_short _ _ r (by simpa [Part.sz] using hk)]
    · obtain rfl : j = ps.length := by omega
      go_wp2_with fail
      refine bodyPost_ret (v := .tuple #[.string ⟨r.toArray⟩, .bool true]) (by simp [results, Try.results25, go_sem]) rfl (post_some ?_ HP.out)
      rw [← HQ.out, List.drop_length]
      rfl

end Go.Proofs.Ythfhffcimjolgaa
