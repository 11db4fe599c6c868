/- The model's reading of a segment. -/
import Derived.Test.YthfhffcimjolgaaTcW
import Derived.Deep.DeepCutAuto
namespace Go.Proofs.Ythfhffcimjolgaa
open Go.RowKit

theorem get_n (S : ByteArray) (a b n : Nat) {x : Int} (hx : getBe ((S.data.toList.drop a).take n) = x) (hb : b = a + n) (hn : n = 2 ∨ n = 4) (hs : b ≤ S.size) (w : World) : Calls Try.prog 30 #[.string (S.extract a b)] w fun e w' => e = .returned (.int .i64 x) ∧ w' = w := by
  have hz : (S.extract a b).size = n := by rw [← sz_list, ba_cut, List.length_take, List.length_drop, sz_list]; omega
  have k := get_spec1 (S.extract a b) w (by omega)
  have e : getN (S.extract a b).data.toList (S.extract a b).size = x := by
    rw [← hx, hz, ba_cut, show b - a = n by omega, getBe_in _ (by rw [List.length_take, List.length_drop, sz_list]; omega)]
    congr 1
    rw [List.length_take, List.length_drop, sz_list]
    omega
  rw [e] at k
  exact k.mono fun _ _ hh => ⟨hh.1, hh.2.symm⟩
theorem one_byte (S : ByteArray) (i : Nat) (h : i < S.size) : getBe ((S.data.toList.drop i).take 1) = (S[i].toNat : Int) := by
  have hl : ((S.data.toList.drop i).take 1).length = 1 := by rw [List.length_take, List.length_drop, sz_list]; omega
  rw [getBe_in _ (by omega), hl]
  show 256 * 0 + ((((S.data.toList.drop i).take 1).getD 0 0).toNat : Int) = _
  have e : ((S.data.toList.drop i).take 1).getD 0 0 = S[i] := by
    rw [← ba_at S i h, List.getD_eq_getElem?_getD, List.getD_eq_getElem?_getD, List.getElem?_take_of_lt (by omega), List.getElem?_drop, Nat.add_zero]
  rw [e]
  omega
theorem step_store_row8 {P : Program} {ops : Array Oper} {o : Oper} {a : Act} {w : World} {K : Act → World → Prop} {Q : Exit → Act → World → Prop} {E : Prop} (hgd : o.guard = none) (ty : TypeId) (x y : Operand) (ho : o.op = .store ty x y)
    (g : Nat) (cells : Array Value) (hx : a.eval x = .pointer (some ⟨g, 0, none⟩)) (hy : a.eval y = .agg cells)
    (t : TypeId) (old : Array Value) (hg : w.heap[g]? = some (.cells old t (0, 0))) (hi : (P.info? ty).map (·.size) = some cells.size)
    (hold : old.size = cells.size) (h1 : cells.all (·.oneCell') = true)
    (h : K (a.put o.dst undef) (w.setRow g cells)) : if Region.wanted o (yielded ops a.tmps) = true then Oper.wp P o a w K Q else E := by
  rw [if_pos (by simp [Region.wanted, hgd])]
  exact wp_store_row ty x y ho g cells hx hy t old hg hi hold h1 h
theorem opt_len : ∀ (f : Nat) (s : List UInt8) (acc l : List Rg), optS f s acc = some l → l.length ≤ acc.length + s.length
  | 0, _, _, _, h => by simp [optS] at h
  | f + 1, s, acc, l, h => by
    unfold optS at h
    split at h
    · cases h; omega
    · split at h
      · have := opt_len f _ _ _ h
        rw [List.length_drop] at this
        omega
      · split at h
        · cases h
        · rename_i hw
          have hw2 : whole s := Classical.not_not.mp hw
          have hb := body_len s hw2
          have h3 := hw2.2.2
          split at h
          · split at h
            · cases h
            · have := opt_len f _ _ _ h
              rw [List.length_drop, rgsOf_len] at this
              omega
          · have := opt_len f _ _ _ h
            rw [List.length_drop] at this
            omega

set_option maxRecDepth 100000 in
set_option maxHeartbeats 4000000 in
theorem read_S (a b : Int) (S : ByteArray) (w : World) (ha : 0 ≤ a ∧ a < 4294967296) (hb : 0 ≤ b ∧ b < 4294967296) (hl : S.size ≤ 1000000000000) :
    Calls Try.prog 9 #[.int .i64 a, .int .i64 b, .string S] w (TrPost w S.data.toList (fG S.data.toList % 64) (rdT a b (fG S.data.toList % 64) S.data.toList)) := by
  have HG := Lib.hid (And.intro (goes_yes ha) (goes_yes hb))
  obtain ⟨g, hg0⟩ : ∃ g, g = fG S.data.toList % 64 := ⟨_, rfl⟩
  rw [← hg0]
  have HGG := Lib.hid hg0
  clear hg0
  have HS := Lib.hid (sz_list S)
  obtain ⟨C0, hC0⟩ : ∃ C, C = w.heap.size := ⟨_, rfl⟩
  have hx := And.intro (World.grownBy_alloc w (.cells #[.int .i64 0, .int .i64 0, .int .i64 0, .int .i64 0, .int .i64 0, .int .i64 0, .slice none 0 0, .string ⟨#[]⟩] 26) none) (Bx.new w 26 #[.int .i64 0, .int .i64 0, .int .i64 0, .int .i64 0, .int .i64 0, .int .i64 0, .slice none 0 0, .string ⟨#[]⟩])
  rw [← hC0] at hx
  have HB := Lib.hid hx
  have HC0 := Lib.hid hC0
  clear hx
  go_enter Try.func9, Try.ntmps9
  go_upto_region 1 with fail
  try rw [← hC0]
  clear hC0
  generalize w.alloc (.cells #[.int .i64 0, .int .i64 0, .int .i64 0, .int .i64 0, .int .i64 0, .int .i64 0, .slice none 0 0, .string ⟨#[]⟩] 26) = w1 at *
  by_cases h20 : S.size < 20
  · have h3 : (S.size : Int) < 20 := by omega
    have HN := Lib.hid (rd_no (a := a) (b := b) (g := g) (s := S.data.toList) (fun h => by have := h.2.2.1; rw [HS.out] at this; omega))
    go_wp2_with (first | (go_at_call 27; refine (seq_any _ _).mono ?_; rintro e w' ⟨rfl, rfl⟩; first | rw [HG.out.1] | rw [HG.out.2]) | (refine wpList_store_row rfl 26 _ _ rfl C0 #[.int .i64 0, .int .i64 0, .int .i64 0, .int .i64 0, .int .i64 0, .int .i64 0, .slice none 0 0, .string ⟨#[]⟩] rfl rfl 26 _ HB.out.2 info_t rfl (by simp [Value.oneCell']) ?_))
    refine bodyPost_ret (v := .tuple #[zeroT, .bool false]) (results_world Try.results9 _ _ C0 26 #[.int .i64 0, .int .i64 0, .int .i64 0, .int .i64 0, .int .i64 0, .int .i64 0, .slice none 0 0, .string ⟨#[]⟩] (0, 0) _ _ rfl rfl (setRow_heap w1 C0 _ _ 26 (0, 0) HB.out.2) Try.underlying26 rfl info_t) rfl ?_
    rw [HN.out]
    exact ⟨rfl, row_grown8 HB.out.1 (Nat.le_of_eq HC0.out.symm) _⟩
  · by_cases h300 : S.size ≤ 300
    · have h3 : ¬ (S.size : Int) < 20 := by omega
      have h4 : ¬ (300 : Int) < (S.size : Int) := by omega
      have HH := Lib.hid (And.intro ha hb)
      clear ha hb
      go_wp2_with (go_at_call 27; refine (seq_any _ _).mono ?_; rintro e w' ⟨rfl, rfl⟩; first | rw [HG.out.1] | rw [HG.out.2])
      have hs := seg_spec a b S.data.toList w1 HH.out.1 HH.out.2 (by rw [HS.out]; omega)
      rw [← ba_eta S] at hs
      refine hs.mono ?_
      clear hs
      rintro e w2 ⟨rfl, hg⟩
      have H2 := Lib.hid (And.intro (grownBy_trans HB.out.1 hg) (HB.out.2.keep hg))
      clear hg HB
      obtain ⟨z, hz⟩ : ∃ z, segSum a b S.data.toList = z := ⟨_, rfl⟩
      rw [hz]
      by_cases hz0 : z = 0
      · subst hz0
        have HZ := Lib.hid hz
        clear hz
        have hzb : ((0 : Int) != 0) = false := rfl
        have h12 : 12 < S.size := by omega
        have h13 : 13 < S.size := by omega
        have h12i : (12 : Int) < (S.size : Int) := by omega
        have h13i : (13 : Int) < (S.size : Int) := by omega
        have e12 := one_byte S 12 h12
        have e13 := one_byte S 13 h13
        have b12 := S[12].toNat_lt
        have b13 := S[13].toNat_lt
        obtain ⟨n, hn⟩ : ∃ n, S[12].toNat = n := ⟨_, rfl⟩
        rw [hn] at e12 b12
        obtain ⟨k, hk⟩ : ∃ k, k = n / 16 * 4 := ⟨_, rfl⟩
        have hkl : hdL S.data.toList = k := by unfold hdL fH; rw [e12, hk]; simp
        have HKL := Lib.hid hkl
        have s0 : IntKind.u8.wrap ((n : Int).tdiv 16) = (n : Int) / 16 := IntWalk.u8_quo _ _ (by omega)
        have s1 : IntKind.i64.wrap ((n : Int) / 16) = (n : Int) / 16 := IntWalk.i64_in _ (by omega)
        have s2 : IntKind.i64.wrap (4 * ((n : Int) / 16)) = 4 * ((n : Int) / 16) := IntWalk.i64_in _ (by omega)
        have e4 : (4 : Int) * ((n : Int) / 16) = (k : Int) := by omega
        have HE4 := Lib.hid e4
        clear e4
        have hk60 : k ≤ 60 := by omega
        have HNN := Lib.hid hn
        clear e12 hkl
        have HK := Lib.hid hk
        clear hk
        have HGV := Lib.hid (show g = (S[13].toNat : Int) % 64 by rw [HGG.out]; unfold fG; rw [e13])
        clear e13
        go_upto_region 4 with fail
        rw [HE4.out]
        clear s0 s1 s2 HNN hn b12
        by_cases hk20 : k < 20
        · have o1 : (k : Int) < 20 := by omega
          have HN := Lib.hid (rd_no (a := a) (b := b) (g := g) (s := S.data.toList) (fun h => by have := h.2.2.2.1; rw [HKL.out] at this; omega))
          clear hk20
          go_wp2_with (refine wpList_store_row rfl 26 _ _ rfl C0 #[.int .i64 0, .int .i64 0, .int .i64 0, .int .i64 0, .int .i64 0, .int .i64 0, .slice none 0 0, .string ⟨#[]⟩] rfl rfl 26 _ H2.out.2 info_t rfl (by simp [Value.oneCell']) ?_)
          refine bodyPost_ret (v := .tuple #[zeroT, .bool false]) (results_world Try.results9 _ _ C0 26 #[.int .i64 0, .int .i64 0, .int .i64 0, .int .i64 0, .int .i64 0, .int .i64 0, .slice none 0 0, .string ⟨#[]⟩] (0, 0) _ _ rfl rfl (setRow_heap w2 C0 _ _ 26 (0, 0) H2.out.2) Try.underlying26 rfl info_t) rfl ?_
          rw [HN.out]
          exact ⟨rfl, row_grown8 H2.out.1 (Nat.le_of_eq HC0.out.symm) _⟩
        · by_cases hks : k ≤ S.size
          · have o1 : ¬ (k : Int) < 20 := by omega
            have o2 : ¬ (S.size : Int) < (k : Int) := by omega
            have o3 : (20 : Int) ≤ (k : Int) := by omega
            have o4 : (k : Int) ≤ (S.size : Int) := by omega
            have o5 : (0 : Int) ≤ (k : Int) := by omega
            have hop : (S.extract 20 k).data.toList = opL S.data.toList := by rw [ba_cut]; unfold opL; rw [HKL.out]
            have hol : (opL S.data.toList).length ≤ 1000 := by unfold opL; rw [List.length_take, List.length_drop, HS.out]; omega
            have HHD := Lib.hid (show rdH a b S.data.toList from ⟨by rw [HS.out]; omega, HZ.out, by rw [HS.out]; omega, by rw [HKL.out]; omega, by rw [HKL.out, HS.out]; omega⟩)
            have hs := sacks_spec (S.extract 20 k).data.toList w2 (by rw [hop]; exact hol)
            rw [← ba_eta (S.extract 20 k), hop] at hs
            have HSK := Lib.hid hs
            clear hs hop hol hk20 hks
            go_wp2_with fail
            refine HSK.out.mono ?_
            clear HSK
            rintro e w3 ⟨ra, rc, rl, ok, rfl, hrg, hg, hok⟩
            have H3 := Lib.hid (And.intro (grownBy_trans H2.out.1 hg) (And.intro (H2.out.2.keep hg) hrg))
            have HLT := Lib.hid H2.out.2.lt
            have HOK := Lib.hid (show (rdS S.data.toList = some rl ∧ ok = true) ∨ (rdS S.data.toList = none ∧ rl = [] ∧ ok = false) from hok)
            clear hrg hg hok H2
            obtain ⟨vf, hvf⟩ : ∃ v, fF S.data.toList = v := ⟨_, rfl⟩
            obtain ⟨vo, hvo⟩ : ∃ v, fO S.data.toList = v := ⟨_, rfl⟩
            obtain ⟨vs, hvs⟩ : ∃ v, fS S.data.toList = v := ⟨_, rfl⟩
            obtain ⟨vk, hvk⟩ : ∃ v, fK S.data.toList = v := ⟨_, rfl⟩
            obtain ⟨vn, hvn⟩ : ∃ v, fN S.data.toList = v := ⟨_, rfl⟩
            have HV := Lib.hid (And.intro hvf (And.intro hvo (And.intro hvs (And.intro hvk hvn))))
            clear hvf hvo hvs hvk hvn
            obtain ⟨D, hD⟩ : ∃ D, D = S.data.toList.drop k := ⟨_, rfl⟩
            have e22 : S.extract k S.size = ⟨D.toArray⟩ := by rw [hD, ← ba_rest]
            have HD := Lib.hid hD
            clear hD
            have c2 : (2 : Int) ≤ (S.size : Int) := by omega
            have c4 : (4 : Int) ≤ (S.size : Int) := by omega
            have c8 : (8 : Int) ≤ (S.size : Int) := by omega
            have c12 : (12 : Int) ≤ (S.size : Int) := by omega
            have c14 : (14 : Int) ≤ (S.size : Int) := by omega
            have c16 : (16 : Int) ≤ (S.size : Int) := by omega
            have g1 : IntKind.u8.wrap ((S[13].toNat : Int).tmod 64) = g := by rw [Int.tmod_eq_emod_of_nonneg (by omega), IntWalk.u8_in _ (by omega), HGV.out]
            have g0 : (S[13].toNat : Int).tmod 64 = g := by rw [Int.tmod_eq_emod_of_nonneg (by omega), HGV.out]
            have g2 : IntKind.i64.wrap g = g := by rw [HGV.out]; exact IntWalk.i64_in _ (by omega)
            have HC0x := Lib.hid (fun w9 => get_n S 0 2 2 HV.out.1 (by omega) (by omega) (by omega) w9)
            have HC2 := Lib.hid (fun w9 => get_n S 2 4 2 HV.out.2.1 (by omega) (by omega) (by omega) w9)
            have HC4 := Lib.hid (fun w9 => get_n S 4 8 4 HV.out.2.2.1 (by omega) (by omega) (by omega) w9)
            have HC8 := Lib.hid (fun w9 => get_n S 8 12 4 HV.out.2.2.2.1 (by omega) (by omega) (by omega) w9)
            have HC14 := Lib.hid (fun w9 => get_n S 14 16 2 HV.out.2.2.2.2 (by omega) (by omega) (by omega) w9)
            go_upto_region 7 with fail
            go_cut [11] (fun v wx => ∃ B : Nat, v = .pointer (some ⟨B, 0, none⟩) ∧ Bx wx B 26 #[.int .i64 vf, .int .i64 vo, .int .i64 vs, .int .i64 vk, .int .i64 g, .int .i64 vn, .slice ra rl.length rc, .string ⟨D.toArray⟩] ∧ w3.grownBy wx none)
            case first =>
              refine wp_region_held_drew (S := fun w' => True) (by kernel_rfl) (trivial) (fun hS => ?_)
              have HW := Lib.hid (show w3.grownBy w3.drew none from grownBy_drew)
              generalize w3.drew = Wd at *
              refine' (fun (tail : ∀ (B : Nat) (W : World), w3.grownBy W none ∧ Bx W B 26 #[.int .i64 0, .int .i64 0, .int .i64 0, .int .i64 0, .int .i64 0, .int .i64 0, .slice none 0 0, .string ⟨#[]⟩] ∧ w3.heap.size ≤ B → (_ : Nat → World → Prop) B W) => ?main) ?tl
              case main =>
                refine wpAnyH_take (i := 0) (v := ?_) rfl (by kernel_rfl) (by kernel_rfl) (by kernel_rfl) (fun _ _ _ h => h) (Or.inl ⟨by kernel_rfl, ?_⟩) hS ?_
                rotate_left
                · intro w' hSw
                  obtain _ := hSw
                  first | (go_simp; done) | (go_simp; with_reducible rfl)
                simp only [List.getElem_toArray, List.getElem_cons_zero, Act.put, List.setIfInBounds_toArray, List.set_cons_zero, List.set_cons_succ]
                refine wpAnyH_take (i := 1) (v := ?_) rfl (by kernel_rfl) (by kernel_rfl) (by kernel_rfl) (fun _ _ _ h => h) (Or.inl ⟨by kernel_rfl, ?_⟩) hS ?_
                rotate_left
                · intro w' hSw
                  obtain _ := hSw
                  first | (go_simp; done) | (go_simp; with_reducible rfl)
                simp only [List.getElem_toArray, List.getElem_cons_zero, List.getElem_cons_succ, Act.put, List.setIfInBounds_toArray, List.set_cons_zero, List.set_cons_succ]
                refine wpAnyH_take (i := 3) (v := ?_) rfl (by kernel_rfl) (by kernel_rfl) (by kernel_rfl) (fun _ _ _ h => h) (Or.inl ⟨by kernel_rfl, ?_⟩) hS ?_
                rotate_left
                · intro w' hSw
                  obtain _ := hSw
                  first | (go_simp; done) | (go_simp; with_reducible rfl)
                simp only [List.getElem_toArray, List.getElem_cons_zero, List.getElem_cons_succ, Act.put, List.setIfInBounds_toArray, List.set_cons_zero, List.set_cons_succ]
                refine wpAnyH_take (i := 4) (v := ?_) rfl (by kernel_rfl) (by kernel_rfl) (by kernel_rfl) (fun _ _ _ h => h) (Or.inl ⟨by kernel_rfl, ?_⟩) hS ?_
                rotate_left
                · intro w' hSw
                  obtain _ := hSw
                  first | (go_simp; done) | (go_simp; with_reducible rfl)
                simp only [List.getElem_toArray, List.getElem_cons_zero, List.getElem_cons_succ, Act.put, List.setIfInBounds_toArray, List.set_cons_zero, List.set_cons_succ]
                refine wpAnyH_take (i := 6) (v := ?_) rfl (by kernel_rfl) (by kernel_rfl) (by kernel_rfl) (fun _ _ _ h => h) (Or.inl ⟨by kernel_rfl, ?_⟩) hS ?_
                rotate_left
                · intro w' hSw
                  obtain _ := hSw
                  first | (go_simp; done) | (go_simp; with_reducible rfl)
                simp only [List.getElem_toArray, List.getElem_cons_zero, List.getElem_cons_succ, Act.put, List.setIfInBounds_toArray, List.set_cons_zero, List.set_cons_succ]
                refine wpAnyH_take (i := 7) (v := ?_) rfl (by kernel_rfl) (by kernel_rfl) (by kernel_rfl) (fun _ _ _ h => h) (Or.inl ⟨by kernel_rfl, ?_⟩) hS ?_
                rotate_left
                · intro w' hSw
                  obtain _ := hSw
                  first | (go_simp; done) | (go_simp; with_reducible rfl)
                simp only [List.getElem_toArray, List.getElem_cons_zero, List.getElem_cons_succ, Act.put, List.setIfInBounds_toArray, List.set_cons_zero, List.set_cons_succ]
                refine wpAnyH_take (i := 9) (v := ?_) rfl (by kernel_rfl) (by kernel_rfl) (by kernel_rfl) (fun _ _ _ h => h) (Or.inl ⟨by kernel_rfl, ?_⟩) hS ?_
                rotate_left
                · intro w' hSw
                  obtain _ := hSw
                  first | (go_simp; done) | (go_simp; with_reducible rfl)
                simp only [List.getElem_toArray, List.getElem_cons_zero, List.getElem_cons_succ, Act.put, List.setIfInBounds_toArray, List.set_cons_zero, List.set_cons_succ]
                refine wpAnyH_take (i := 10) (v := ?_) rfl (by kernel_rfl) (by kernel_rfl) (by kernel_rfl) (fun _ _ _ h => h) (Or.inl ⟨by kernel_rfl, ?_⟩) hS ?_
                rotate_left
                · intro w' hSw
                  obtain _ := hSw
                  first | (go_simp; done) | (go_simp; with_reducible rfl)
                simp only [List.getElem_toArray, List.getElem_cons_zero, List.getElem_cons_succ, Act.put, List.setIfInBounds_toArray, List.set_cons_zero, List.set_cons_succ]
                refine wpAnyH_take (i := 12) (v := ?_) rfl (by kernel_rfl) (by kernel_rfl) (by kernel_rfl) (fun _ _ _ h => h) (Or.inl ⟨by kernel_rfl, ?_⟩) hS ?_
                rotate_left
                · intro w' hSw
                  obtain _ := hSw
                  first | (go_simp; done) | (go_simp; with_reducible rfl)
                simp only [List.getElem_toArray, List.getElem_cons_zero, List.getElem_cons_succ, Act.put, List.setIfInBounds_toArray, List.set_cons_zero, List.set_cons_succ]
                refine wpAnyH_take (i := 13) (v := ?_) rfl (by kernel_rfl) (by kernel_rfl) (by kernel_rfl) (fun _ _ _ h => h) (Or.inl ⟨by kernel_rfl, ?_⟩) hS ?_
                rotate_left
                · intro w' hSw
                  obtain _ := hSw
                  first | (go_simp; done) | (go_simp; with_reducible rfl)
                simp only [List.getElem_toArray, List.getElem_cons_zero, List.getElem_cons_succ, Act.put, List.setIfInBounds_toArray, List.set_cons_zero, List.set_cons_succ]
                refine wpAnyH_take (i := 14) (v := .int .u8 g) rfl (by kernel_rfl) (by kernel_rfl) (by kernel_rfl) (fun _ _ _ h => h) (Or.inl ⟨by kernel_rfl, ?_⟩) hS ?_
                · intro w' hSw
                  obtain _ := hSw
                  first | (go_simp; done) | (go_simp; with_reducible rfl)
                simp only [List.getElem_toArray, List.getElem_cons_zero, List.getElem_cons_succ, Act.put, List.setIfInBounds_toArray, List.set_cons_zero, List.set_cons_succ]
                refine wpAnyH_take (i := 15) (v := .int .i64 g) rfl (by kernel_rfl) (by kernel_rfl) (by kernel_rfl) (fun _ _ _ h => h) (Or.inl ⟨by kernel_rfl, ?_⟩) hS ?_
                · intro w' hSw
                  obtain _ := hSw
                  first | (go_simp; done) | (go_simp; with_reducible rfl)
                simp only [List.getElem_toArray, List.getElem_cons_zero, List.getElem_cons_succ, Act.put, List.setIfInBounds_toArray, List.set_cons_zero, List.set_cons_succ]
                refine wpAnyH_take (i := 16) (v := ?_) rfl (by kernel_rfl) (by kernel_rfl) (by kernel_rfl) (fun _ _ _ h => h) (Or.inl ⟨by kernel_rfl, ?_⟩) hS ?_
                rotate_left
                · intro w' hSw
                  obtain _ := hSw
                  first | (go_simp; done) | (go_simp; with_reducible rfl)
                simp only [List.getElem_toArray, List.getElem_cons_zero, List.getElem_cons_succ, Act.put, List.setIfInBounds_toArray, List.set_cons_zero, List.set_cons_succ]
                refine wpAnyH_take (i := 17) (v := ?_) rfl (by kernel_rfl) (by kernel_rfl) (by kernel_rfl) (fun _ _ _ h => h) (Or.inl ⟨by kernel_rfl, ?_⟩) hS ?_
                rotate_left
                · intro w' hSw
                  obtain _ := hSw
                  first | (go_simp; done) | (go_simp; with_reducible rfl)
                simp only [List.getElem_toArray, List.getElem_cons_zero, List.getElem_cons_succ, Act.put, List.setIfInBounds_toArray, List.set_cons_zero, List.set_cons_succ]
                refine wpAnyH_take (i := 19) (v := ?_) rfl (by kernel_rfl) (by kernel_rfl) (by kernel_rfl) (fun _ _ _ h => h) (Or.inl ⟨by kernel_rfl, ?_⟩) hS ?_
                rotate_left
                · intro w' hSw
                  obtain _ := hSw
                  first | (go_simp; done) | (go_simp; with_reducible rfl)
                simp only [List.getElem_toArray, List.getElem_cons_zero, List.getElem_cons_succ, Act.put, List.setIfInBounds_toArray, List.set_cons_zero, List.set_cons_succ]
                refine wpAnyH_take (i := 20) (v := ?_) rfl (by kernel_rfl) (by kernel_rfl) (by kernel_rfl) (fun _ _ _ h => h) (Or.inl ⟨by kernel_rfl, ?_⟩) hS ?_
                rotate_left
                · intro w' hSw
                  obtain _ := hSw
                  first | (go_simp; done) | (go_simp; with_reducible rfl)
                simp only [List.getElem_toArray, List.getElem_cons_zero, List.getElem_cons_succ, Act.put, List.setIfInBounds_toArray, List.set_cons_zero, List.set_cons_succ]
                refine wpAnyH_take (i := 21) (v := ?_) rfl (by kernel_rfl) (by kernel_rfl) (by kernel_rfl) (fun _ _ _ h => h) (Or.inl ⟨by kernel_rfl, ?_⟩) hS ?_
                rotate_left
                · intro w' hSw
                  obtain _ := hSw
                  first | (go_simp; done) | (go_simp; with_reducible rfl)
                simp only [List.getElem_toArray, List.getElem_cons_zero, List.getElem_cons_succ, Act.put, List.setIfInBounds_toArray, List.set_cons_zero, List.set_cons_succ]
                refine wpAnyH_take (i := 22) (v := .string ⟨D.toArray⟩) rfl (by kernel_rfl) (by kernel_rfl) (by kernel_rfl) (fun _ _ _ h => h) (Or.inl ⟨by kernel_rfl, ?_⟩) hS ?_
                · intro w' hSw
                  obtain _ := hSw
                  first | (go_simp; done) | (go_simp; with_reducible rfl)
                simp only [List.getElem_toArray, List.getElem_cons_zero, List.getElem_cons_succ, Act.put, List.setIfInBounds_toArray, List.set_cons_zero, List.set_cons_succ]
                refine wpAnyH_ready (rs := [2, 24]) (by kernel_rfl) (List.cons_ne_nil _ _) ?_
                refine AllReadyH.cons rfl (fun K hK => ?_) ?_
                · go_simp
                  go_at_call 30
                  refine (HC0x.out _).mono ?_
                  rintro e w' ⟨rfl, hww⟩
                  obtain rfl : Wd = w' := hww.symm
                  refine hK.out _ _ trivial (fun _ => ?_)
                  clear hK
                  try simp only [List.getElem_toArray, List.getElem_cons_zero, List.getElem_cons_succ, Act.put, List.setIfInBounds_toArray, List.set_cons_zero, List.set_cons_succ]
                  refine wpAnyH_ready (rs := [5, 24]) (by kernel_rfl) (List.cons_ne_nil _ _) ?_
                  refine AllReadyH.cons rfl (fun K hK => ?_) ?_
                  · go_simp
                    go_at_call 30
                    refine (HC2.out _).mono ?_
                    rintro e w' ⟨rfl, hww⟩
                    obtain rfl : Wd = w' := hww.symm
                    refine hK.out _ _ trivial (fun _ => ?_)
                    clear hK
                    try simp only [List.getElem_toArray, List.getElem_cons_zero, List.getElem_cons_succ, Act.put, List.setIfInBounds_toArray, List.set_cons_zero, List.set_cons_succ]
                    refine wpAnyH_ready (rs := [8, 24]) (by kernel_rfl) (List.cons_ne_nil _ _) ?_
                    refine AllReadyH.cons rfl (fun K hK => ?_) ?_
                    · go_simp
                      go_at_call 30
                      refine (HC4.out _).mono ?_
                      rintro e w' ⟨rfl, hww⟩
                      obtain rfl : Wd = w' := hww.symm
                      refine hK.out _ _ trivial (fun _ => ?_)
                      clear hK
                      try simp only [List.getElem_toArray, List.getElem_cons_zero, List.getElem_cons_succ, Act.put, List.setIfInBounds_toArray, List.set_cons_zero, List.set_cons_succ]
                      refine wpAnyH_ready (rs := [11, 24]) (by kernel_rfl) (List.cons_ne_nil _ _) ?_
                      refine AllReadyH.cons rfl (fun K hK => ?_) ?_
                      · go_simp
                        go_at_call 30
                        refine (HC8.out _).mono ?_
                        rintro e w' ⟨rfl, hww⟩
                        obtain rfl : Wd = w' := hww.symm
                        refine hK.out _ _ trivial (fun _ => ?_)
                        clear hK
                        try simp only [List.getElem_toArray, List.getElem_cons_zero, List.getElem_cons_succ, Act.put, List.setIfInBounds_toArray, List.set_cons_zero, List.set_cons_succ]
                        refine wpAnyH_ready (rs := [18, 24]) (by kernel_rfl) (List.cons_ne_nil _ _) ?_
                        refine AllReadyH.cons rfl (fun K hK => ?_) ?_
                        · go_simp
                          go_at_call 30
                          refine (HC14.out _).mono ?_
                          rintro e w' ⟨rfl, hww⟩
                          obtain rfl : Wd = w' := hww.symm
                          refine hK.out _ _ trivial (fun _ => ?_)
                          clear hK
                          try simp only [List.getElem_toArray, List.getElem_cons_zero, List.getElem_cons_succ, Act.put, List.setIfInBounds_toArray, List.set_cons_zero, List.set_cons_succ]
                          refine wpAnyH_take (i := 23) (v := ?_) rfl (by kernel_rfl) (by kernel_rfl) (by kernel_rfl) (fun _ _ _ h => h) (Or.inl ⟨by kernel_rfl, ?_⟩) hS ?_
                          rotate_left
                          · intro w' hSw
                            obtain _ := hSw
                            first | (go_simp; done) | (go_simp; with_reducible rfl)
                          simp only [List.getElem_toArray, List.getElem_cons_zero, List.getElem_cons_succ, Act.put, List.setIfInBounds_toArray, List.set_cons_zero, List.set_cons_succ]
                          refine wpAnyH_ready (rs := [24]) (by kernel_rfl) (List.cons_ne_nil _ _) ?_
                          refine AllReadyH.cons rfl (fun K hK => ?_) AllReadyH.nil
                          go_simp
                          have HA := Lib.hid (And.intro (grownBy_trans HW.out (World.grownBy_alloc Wd (.cells #[.int .i64 0, .int .i64 0, .int .i64 0, .int .i64 0, .int .i64 0, .int .i64 0, .slice none 0 0, .string ⟨#[]⟩] 26) none)) (And.intro (Bx.new Wd 26 #[.int .i64 0, .int .i64 0, .int .i64 0, .int .i64 0, .int .i64 0, .int .i64 0, .slice none 0 0, .string ⟨#[]⟩]) HW.out.size))
                          refine hK.out _ _ trivial (fun _ => ?_)
                          generalize Wd.alloc (.cells #[.int .i64 0, .int .i64 0, .int .i64 0, .int .i64 0, .int .i64 0, .int .i64 0, .slice none 0 0, .string ⟨#[]⟩] 26) = u1 at *
                          generalize Wd.heap.size = B at *
                          clear hK
                          try simp only [List.getElem_toArray, List.getElem_cons_zero, List.getElem_cons_succ, Act.put, List.setIfInBounds_toArray, List.set_cons_zero, List.set_cons_succ]
                          exact tail B u1 HA.out
                        refine AllReadyH.cons rfl (fun K hK => ?_) ?_
                        · go_simp
                          have HA := Lib.hid (And.intro (grownBy_trans HW.out (World.grownBy_alloc Wd (.cells #[.int .i64 0, .int .i64 0, .int .i64 0, .int .i64 0, .int .i64 0, .int .i64 0, .slice none 0 0, .string ⟨#[]⟩] 26) none)) (And.intro (Bx.new Wd 26 #[.int .i64 0, .int .i64 0, .int .i64 0, .int .i64 0, .int .i64 0, .int .i64 0, .slice none 0 0, .string ⟨#[]⟩]) HW.out.size))
                          refine hK.out _ _ trivial (fun _ => ?_)
                          generalize Wd.alloc (.cells #[.int .i64 0, .int .i64 0, .int .i64 0, .int .i64 0, .int .i64 0, .int .i64 0, .slice none 0 0, .string ⟨#[]⟩] 26) = u1 at *
                          generalize Wd.heap.size = B at *
                          clear hK
                          try simp only [List.getElem_toArray, List.getElem_cons_zero, List.getElem_cons_succ, Act.put, List.setIfInBounds_toArray, List.set_cons_zero, List.set_cons_succ]
                          refine wpAnyH_ready (rs := [18]) (by kernel_rfl) (List.cons_ne_nil _ _) ?_
                          refine AllReadyH.cons rfl (fun K hK => ?_) AllReadyH.nil
                          go_simp
                          go_at_call 30
                          refine (HC14.out _).mono ?_
                          rintro e w' ⟨rfl, hww⟩
                          obtain rfl : u1 = w' := hww.symm
                          refine hK.out _ _ trivial (fun _ => ?_)
                          clear hK
                          try simp only [List.getElem_toArray, List.getElem_cons_zero, List.getElem_cons_succ, Act.put, List.setIfInBounds_toArray, List.set_cons_zero, List.set_cons_succ]
                          refine wpAnyH_take (i := 23) (v := ?_) rfl (by kernel_rfl) (by kernel_rfl) (by kernel_rfl) (fun _ _ _ h => h) (Or.inl ⟨by kernel_rfl, ?_⟩) hS ?_
                          rotate_left
                          · intro w' hSw
                            obtain _ := hSw
                            first | (go_simp; done) | (go_simp; with_reducible rfl)
                          simp only [List.getElem_toArray, List.getElem_cons_zero, List.getElem_cons_succ, Act.put, List.setIfInBounds_toArray, List.set_cons_zero, List.set_cons_succ]
                          exact tail B u1 HA.out
                        exact AllReadyH.nil
                      refine AllReadyH.cons rfl (fun K hK => ?_) ?_
                      · go_simp
                        have HA := Lib.hid (And.intro (grownBy_trans HW.out (World.grownBy_alloc Wd (.cells #[.int .i64 0, .int .i64 0, .int .i64 0, .int .i64 0, .int .i64 0, .int .i64 0, .slice none 0 0, .string ⟨#[]⟩] 26) none)) (And.intro (Bx.new Wd 26 #[.int .i64 0, .int .i64 0, .int .i64 0, .int .i64 0, .int .i64 0, .int .i64 0, .slice none 0 0, .string ⟨#[]⟩]) HW.out.size))
                        refine hK.out _ _ trivial (fun _ => ?_)
                        generalize Wd.alloc (.cells #[.int .i64 0, .int .i64 0, .int .i64 0, .int .i64 0, .int .i64 0, .int .i64 0, .slice none 0 0, .string ⟨#[]⟩] 26) = u1 at *
                        generalize Wd.heap.size = B at *
                        clear hK
                        try simp only [List.getElem_toArray, List.getElem_cons_zero, List.getElem_cons_succ, Act.put, List.setIfInBounds_toArray, List.set_cons_zero, List.set_cons_succ]
                        refine wpAnyH_ready (rs := [11]) (by kernel_rfl) (List.cons_ne_nil _ _) ?_
                        refine AllReadyH.cons rfl (fun K hK => ?_) AllReadyH.nil
                        go_simp
                        go_at_call 30
                        refine (HC8.out _).mono ?_
                        rintro e w' ⟨rfl, hww⟩
                        obtain rfl : u1 = w' := hww.symm
                        refine hK.out _ _ trivial (fun _ => ?_)
                        clear hK
                        try simp only [List.getElem_toArray, List.getElem_cons_zero, List.getElem_cons_succ, Act.put, List.setIfInBounds_toArray, List.set_cons_zero, List.set_cons_succ]
                        refine wpAnyH_ready (rs := [18]) (by kernel_rfl) (List.cons_ne_nil _ _) ?_
                        refine AllReadyH.cons rfl (fun K hK => ?_) AllReadyH.nil
                        go_simp
                        go_at_call 30
                        refine (HC14.out _).mono ?_
                        rintro e w' ⟨rfl, hww⟩
                        obtain rfl : u1 = w' := hww.symm
                        refine hK.out _ _ trivial (fun _ => ?_)
                        clear hK
                        try simp only [List.getElem_toArray, List.getElem_cons_zero, List.getElem_cons_succ, Act.put, List.setIfInBounds_toArray, List.set_cons_zero, List.set_cons_succ]
                        refine wpAnyH_take (i := 23) (v := ?_) rfl (by kernel_rfl) (by kernel_rfl) (by kernel_rfl) (fun _ _ _ h => h) (Or.inl ⟨by kernel_rfl, ?_⟩) hS ?_
                        rotate_left
                        · intro w' hSw
                          obtain _ := hSw
                          first | (go_simp; done) | (go_simp; with_reducible rfl)
                        simp only [List.getElem_toArray, List.getElem_cons_zero, List.getElem_cons_succ, Act.put, List.setIfInBounds_toArray, List.set_cons_zero, List.set_cons_succ]
                        exact tail B u1 HA.out
                      exact AllReadyH.nil
                    refine AllReadyH.cons rfl (fun K hK => ?_) ?_
                    · go_simp
                      have HA := Lib.hid (And.intro (grownBy_trans HW.out (World.grownBy_alloc Wd (.cells #[.int .i64 0, .int .i64 0, .int .i64 0, .int .i64 0, .int .i64 0, .int .i64 0, .slice none 0 0, .string ⟨#[]⟩] 26) none)) (And.intro (Bx.new Wd 26 #[.int .i64 0, .int .i64 0, .int .i64 0, .int .i64 0, .int .i64 0, .int .i64 0, .slice none 0 0, .string ⟨#[]⟩]) HW.out.size))
                      refine hK.out _ _ trivial (fun _ => ?_)
                      generalize Wd.alloc (.cells #[.int .i64 0, .int .i64 0, .int .i64 0, .int .i64 0, .int .i64 0, .int .i64 0, .slice none 0 0, .string ⟨#[]⟩] 26) = u1 at *
                      generalize Wd.heap.size = B at *
                      clear hK
                      try simp only [List.getElem_toArray, List.getElem_cons_zero, List.getElem_cons_succ, Act.put, List.setIfInBounds_toArray, List.set_cons_zero, List.set_cons_succ]
                      refine wpAnyH_ready (rs := [8]) (by kernel_rfl) (List.cons_ne_nil _ _) ?_
                      refine AllReadyH.cons rfl (fun K hK => ?_) AllReadyH.nil
                      go_simp
                      go_at_call 30
                      refine (HC4.out _).mono ?_
                      rintro e w' ⟨rfl, hww⟩
                      obtain rfl : u1 = w' := hww.symm
                      refine hK.out _ _ trivial (fun _ => ?_)
                      clear hK
                      try simp only [List.getElem_toArray, List.getElem_cons_zero, List.getElem_cons_succ, Act.put, List.setIfInBounds_toArray, List.set_cons_zero, List.set_cons_succ]
                      refine wpAnyH_ready (rs := [11]) (by kernel_rfl) (List.cons_ne_nil _ _) ?_
                      refine AllReadyH.cons rfl (fun K hK => ?_) AllReadyH.nil
                      go_simp
                      go_at_call 30
                      refine (HC8.out _).mono ?_
                      rintro e w' ⟨rfl, hww⟩
                      obtain rfl : u1 = w' := hww.symm
                      refine hK.out _ _ trivial (fun _ => ?_)
                      clear hK
                      try simp only [List.getElem_toArray, List.getElem_cons_zero, List.getElem_cons_succ, Act.put, List.setIfInBounds_toArray, List.set_cons_zero, List.set_cons_succ]
                      refine wpAnyH_ready (rs := [18]) (by kernel_rfl) (List.cons_ne_nil _ _) ?_
                      refine AllReadyH.cons rfl (fun K hK => ?_) AllReadyH.nil
                      go_simp
                      go_at_call 30
                      refine (HC14.out _).mono ?_
                      rintro e w' ⟨rfl, hww⟩
                      obtain rfl : u1 = w' := hww.symm
                      refine hK.out _ _ trivial (fun _ => ?_)
                      clear hK
                      try simp only [List.getElem_toArray, List.getElem_cons_zero, List.getElem_cons_succ, Act.put, List.setIfInBounds_toArray, List.set_cons_zero, List.set_cons_succ]
                      refine wpAnyH_take (i := 23) (v := ?_) rfl (by kernel_rfl) (by kernel_rfl) (by kernel_rfl) (fun _ _ _ h => h) (Or.inl ⟨by kernel_rfl, ?_⟩) hS ?_
                      rotate_left
                      · intro w' hSw
                        obtain _ := hSw
                        first | (go_simp; done) | (go_simp; with_reducible rfl)
                      simp only [List.getElem_toArray, List.getElem_cons_zero, List.getElem_cons_succ, Act.put, List.setIfInBounds_toArray, List.set_cons_zero, List.set_cons_succ]
                      exact tail B u1 HA.out
                    exact AllReadyH.nil
                  refine AllReadyH.cons rfl (fun K hK => ?_) ?_
                  · go_simp
                    have HA := Lib.hid (And.intro (grownBy_trans HW.out (World.grownBy_alloc Wd (.cells #[.int .i64 0, .int .i64 0, .int .i64 0, .int .i64 0, .int .i64 0, .int .i64 0, .slice none 0 0, .string ⟨#[]⟩] 26) none)) (And.intro (Bx.new Wd 26 #[.int .i64 0, .int .i64 0, .int .i64 0, .int .i64 0, .int .i64 0, .int .i64 0, .slice none 0 0, .string ⟨#[]⟩]) HW.out.size))
                    refine hK.out _ _ trivial (fun _ => ?_)
                    generalize Wd.alloc (.cells #[.int .i64 0, .int .i64 0, .int .i64 0, .int .i64 0, .int .i64 0, .int .i64 0, .slice none 0 0, .string ⟨#[]⟩] 26) = u1 at *
                    generalize Wd.heap.size = B at *
                    clear hK
                    try simp only [List.getElem_toArray, List.getElem_cons_zero, List.getElem_cons_succ, Act.put, List.setIfInBounds_toArray, List.set_cons_zero, List.set_cons_succ]
                    refine wpAnyH_ready (rs := [5]) (by kernel_rfl) (List.cons_ne_nil _ _) ?_
                    refine AllReadyH.cons rfl (fun K hK => ?_) AllReadyH.nil
                    go_simp
                    go_at_call 30
                    refine (HC2.out _).mono ?_
                    rintro e w' ⟨rfl, hww⟩
                    obtain rfl : u1 = w' := hww.symm
                    refine hK.out _ _ trivial (fun _ => ?_)
                    clear hK
                    try simp only [List.getElem_toArray, List.getElem_cons_zero, List.getElem_cons_succ, Act.put, List.setIfInBounds_toArray, List.set_cons_zero, List.set_cons_succ]
                    refine wpAnyH_ready (rs := [8]) (by kernel_rfl) (List.cons_ne_nil _ _) ?_
                    refine AllReadyH.cons rfl (fun K hK => ?_) AllReadyH.nil
                    go_simp
                    go_at_call 30
                    refine (HC4.out _).mono ?_
                    rintro e w' ⟨rfl, hww⟩
                    obtain rfl : u1 = w' := hww.symm
                    refine hK.out _ _ trivial (fun _ => ?_)
                    clear hK
                    try simp only [List.getElem_toArray, List.getElem_cons_zero, List.getElem_cons_succ, Act.put, List.setIfInBounds_toArray, List.set_cons_zero, List.set_cons_succ]
                    refine wpAnyH_ready (rs := [11]) (by kernel_rfl) (List.cons_ne_nil _ _) ?_
                    refine AllReadyH.cons rfl (fun K hK => ?_) AllReadyH.nil
                    go_simp
                    go_at_call 30
                    refine (HC8.out _).mono ?_
                    rintro e w' ⟨rfl, hww⟩
                    obtain rfl : u1 = w' := hww.symm
                    refine hK.out _ _ trivial (fun _ => ?_)
                    clear hK
                    try simp only [List.getElem_toArray, List.getElem_cons_zero, List.getElem_cons_succ, Act.put, List.setIfInBounds_toArray, List.set_cons_zero, List.set_cons_succ]
                    refine wpAnyH_ready (rs := [18]) (by kernel_rfl) (List.cons_ne_nil _ _) ?_
                    refine AllReadyH.cons rfl (fun K hK => ?_) AllReadyH.nil
                    go_simp
                    go_at_call 30
                    refine (HC14.out _).mono ?_
                    rintro e w' ⟨rfl, hww⟩
                    obtain rfl : u1 = w' := hww.symm
                    refine hK.out _ _ trivial (fun _ => ?_)
                    clear hK
                    try simp only [List.getElem_toArray, List.getElem_cons_zero, List.getElem_cons_succ, Act.put, List.setIfInBounds_toArray, List.set_cons_zero, List.set_cons_succ]
                    refine wpAnyH_take (i := 23) (v := ?_) rfl (by kernel_rfl) (by kernel_rfl) (by kernel_rfl) (fun _ _ _ h => h) (Or.inl ⟨by kernel_rfl, ?_⟩) hS ?_
                    rotate_left
                    · intro w' hSw
                      obtain _ := hSw
                      first | (go_simp; done) | (go_simp; with_reducible rfl)
                    simp only [List.getElem_toArray, List.getElem_cons_zero, List.getElem_cons_succ, Act.put, List.setIfInBounds_toArray, List.set_cons_zero, List.set_cons_succ]
                    exact tail B u1 HA.out
                  exact AllReadyH.nil
                refine AllReadyH.cons rfl (fun K hK => ?_) ?_
                · go_simp
                  have HA := Lib.hid (And.intro (grownBy_trans HW.out (World.grownBy_alloc Wd (.cells #[.int .i64 0, .int .i64 0, .int .i64 0, .int .i64 0, .int .i64 0, .int .i64 0, .slice none 0 0, .string ⟨#[]⟩] 26) none)) (And.intro (Bx.new Wd 26 #[.int .i64 0, .int .i64 0, .int .i64 0, .int .i64 0, .int .i64 0, .int .i64 0, .slice none 0 0, .string ⟨#[]⟩]) HW.out.size))
                  refine hK.out _ _ trivial (fun _ => ?_)
                  generalize Wd.alloc (.cells #[.int .i64 0, .int .i64 0, .int .i64 0, .int .i64 0, .int .i64 0, .int .i64 0, .slice none 0 0, .string ⟨#[]⟩] 26) = u1 at *
                  generalize Wd.heap.size = B at *
                  clear hK
                  try simp only [List.getElem_toArray, List.getElem_cons_zero, List.getElem_cons_succ, Act.put, List.setIfInBounds_toArray, List.set_cons_zero, List.set_cons_succ]
                  refine wpAnyH_ready (rs := [2]) (by kernel_rfl) (List.cons_ne_nil _ _) ?_
                  refine AllReadyH.cons rfl (fun K hK => ?_) AllReadyH.nil
                  go_simp
                  go_at_call 30
                  refine (HC0x.out _).mono ?_
                  rintro e w' ⟨rfl, hww⟩
                  obtain rfl : u1 = w' := hww.symm
                  refine hK.out _ _ trivial (fun _ => ?_)
                  clear hK
                  try simp only [List.getElem_toArray, List.getElem_cons_zero, List.getElem_cons_succ, Act.put, List.setIfInBounds_toArray, List.set_cons_zero, List.set_cons_succ]
                  refine wpAnyH_ready (rs := [5]) (by kernel_rfl) (List.cons_ne_nil _ _) ?_
                  refine AllReadyH.cons rfl (fun K hK => ?_) AllReadyH.nil
                  go_simp
                  go_at_call 30
                  refine (HC2.out _).mono ?_
                  rintro e w' ⟨rfl, hww⟩
                  obtain rfl : u1 = w' := hww.symm
                  refine hK.out _ _ trivial (fun _ => ?_)
                  clear hK
                  try simp only [List.getElem_toArray, List.getElem_cons_zero, List.getElem_cons_succ, Act.put, List.setIfInBounds_toArray, List.set_cons_zero, List.set_cons_succ]
                  refine wpAnyH_ready (rs := [8]) (by kernel_rfl) (List.cons_ne_nil _ _) ?_
                  refine AllReadyH.cons rfl (fun K hK => ?_) AllReadyH.nil
                  go_simp
                  go_at_call 30
                  refine (HC4.out _).mono ?_
                  rintro e w' ⟨rfl, hww⟩
                  obtain rfl : u1 = w' := hww.symm
                  refine hK.out _ _ trivial (fun _ => ?_)
                  clear hK
                  try simp only [List.getElem_toArray, List.getElem_cons_zero, List.getElem_cons_succ, Act.put, List.setIfInBounds_toArray, List.set_cons_zero, List.set_cons_succ]
                  refine wpAnyH_ready (rs := [11]) (by kernel_rfl) (List.cons_ne_nil _ _) ?_
                  refine AllReadyH.cons rfl (fun K hK => ?_) AllReadyH.nil
                  go_simp
                  go_at_call 30
                  refine (HC8.out _).mono ?_
                  rintro e w' ⟨rfl, hww⟩
                  obtain rfl : u1 = w' := hww.symm
                  refine hK.out _ _ trivial (fun _ => ?_)
                  clear hK
                  try simp only [List.getElem_toArray, List.getElem_cons_zero, List.getElem_cons_succ, Act.put, List.setIfInBounds_toArray, List.set_cons_zero, List.set_cons_succ]
                  refine wpAnyH_ready (rs := [18]) (by kernel_rfl) (List.cons_ne_nil _ _) ?_
                  refine AllReadyH.cons rfl (fun K hK => ?_) AllReadyH.nil
                  go_simp
                  go_at_call 30
                  refine (HC14.out _).mono ?_
                  rintro e w' ⟨rfl, hww⟩
                  obtain rfl : u1 = w' := hww.symm
                  refine hK.out _ _ trivial (fun _ => ?_)
                  clear hK
                  try simp only [List.getElem_toArray, List.getElem_cons_zero, List.getElem_cons_succ, Act.put, List.setIfInBounds_toArray, List.set_cons_zero, List.set_cons_succ]
                  refine wpAnyH_take (i := 23) (v := ?_) rfl (by kernel_rfl) (by kernel_rfl) (by kernel_rfl) (fun _ _ _ h => h) (Or.inl ⟨by kernel_rfl, ?_⟩) hS ?_
                  rotate_left
                  · intro w' hSw
                    obtain _ := hSw
                    first | (go_simp; done) | (go_simp; with_reducible rfl)
                  simp only [List.getElem_toArray, List.getElem_cons_zero, List.getElem_cons_succ, Act.put, List.setIfInBounds_toArray, List.set_cons_zero, List.set_cons_succ]
                  exact tail B u1 HA.out
                exact AllReadyH.nil
              case tl =>
                intro B u1 hs
                have HA := Lib.hid hs
                clear hs
                have hS : True := trivial
                refine wpAnyH_ready (rs := [25]) (by kernel_rfl) (List.cons_ne_nil _ _) ?_
                refine AllReadyH.cons rfl (fun K hK => ?_) AllReadyH.nil
                refine step_store_row8 rfl 26 _ _ (by rfl) B #[.int .i64 vf, .int .i64 vo, .int .i64 vs, .int .i64 vk, .int .i64 g, .int .i64 vn, .slice ra rl.length rc, .string ⟨D.toArray⟩] rfl rfl 26 _ HA.out.2.1 info_t rfl (by simp [Value.oneCell']) ?_
                have HF := Lib.hid (And.intro (setRow_heap u1 B _ #[.int .i64 vf, .int .i64 vo, .int .i64 vs, .int .i64 vk, .int .i64 g, .int .i64 vn, .slice ra rl.length rc, .string ⟨D.toArray⟩] 26 (0, 0) HA.out.2.1) (row_grown8 HA.out.1 HA.out.2.2 #[.int .i64 vf, .int .i64 vo, .int .i64 vs, .int .i64 vk, .int .i64 g, .int .i64 vn, .slice ra rl.length rc, .string ⟨D.toArray⟩]))
                refine hK.out _ _ trivial (fun _ => ?_)
                generalize u1.setRow B #[.int .i64 vf, .int .i64 vo, .int .i64 vs, .int .i64 vk, .int .i64 g, .int .i64 vn, .slice ra rl.length rc, .string ⟨D.toArray⟩] = u2 at *
                clear hK
                try simp only [List.getElem_toArray, List.getElem_cons_zero, List.getElem_cons_succ, Act.put]
                refine wpAnyH_done (by kernel_rfl) ?_ _
                go_wp2_with fail
                go_meet
                exact ⟨B, rfl, HF.out.1, HF.out.2⟩
            case rest =>
              obtain ⟨B, rfl, hbx, hgx⟩ := hcut
              generalize hwc : wc = w4 at *
              clear hwc
              have H4 := Lib.hid (And.intro (grownBy_trans H3.out.1 hgx) (And.intro (H3.out.2.1.keep hgx) (And.intro (H3.out.2.2.kept hgx) hbx)))
              clear hgx hbx H3 e22 c2 c4 c8 c12 c14 c16 g0 g1 g2
              cases ok
              · have HN := Lib.hid (show rdT a b g S.data.toList = none from HOK.out.elim (fun h => by cases h.2) (fun h => rd_opt h.1))
                go_wp2_with (refine wpList_store_row rfl 26 _ _ rfl C0 #[.int .i64 0, .int .i64 0, .int .i64 0, .int .i64 0, .int .i64 0, .int .i64 0, .slice none 0 0, .string ⟨#[]⟩] rfl rfl 26 _ H4.out.2.1 info_t rfl (by simp [Value.oneCell']) ?_)
                refine bodyPost_ret (v := .tuple #[zeroT, .bool false]) (results_world Try.results9 _ _ C0 26 #[.int .i64 0, .int .i64 0, .int .i64 0, .int .i64 0, .int .i64 0, .int .i64 0, .slice none 0 0, .string ⟨#[]⟩] (0, 0) _ _ rfl rfl (setRow_heap w4 C0 _ _ 26 (0, 0) H4.out.2.1) Try.underlying26 rfl info_t) rfl ?_
                rw [HN.out]
                exact ⟨rfl, row_grown8 H4.out.1 (Nat.le_of_eq HC0.out.symm) _⟩
              · have HRD := Lib.hid (show rdS S.data.toList = some rl from HOK.out.elim (fun h => h.1) (fun h => by cases h.2.2))
                have HLN := Lib.hid (show rl.length ≤ maxLen by have h1 := opt_len _ _ _ _ HRD.out; have h2 : (opL S.data.toList).length ≤ 300 := (by unfold opL; rw [List.length_take, List.length_drop, HS.out]; omega); simp only [List.length_nil] at h1; unfold maxLen; omega)
                have t0 := H4.out.2.2.2.c 0 rfl
                have t1 := H4.out.2.2.2.c 1 rfl
                have t2 := H4.out.2.2.2.c 2 rfl
                have t3 := H4.out.2.2.2.c 3 rfl
                have t4 := H4.out.2.2.2.c 4 rfl
                have t5 := H4.out.2.2.2.c 5 rfl
                have t6 := H4.out.2.2.2.c 6 rfl
                have t7 := H4.out.2.2.2.c 7 rfl
                go_wp2_with fail
                clear t0 t1 t2 t3 t4 t5 t6 t7
                refine (tcp_ok_spec vf vo vs vk g vn ra rc rl D w4 H4.out.2.2.1.1 HLN.out).mono ?_
                rintro e w5 ⟨rfl, hg⟩
                have H5 := Lib.hid (And.intro (grownBy_trans H4.out.1 hg) (And.intro (H4.out.2.1.keep hg) (And.intro (H4.out.2.2.1.kept hg) (H4.out.2.2.2.keep hg))))
                clear hg H4
                have hrd : rdG g S.data.toList rl ↔ tcpOk vf vo vs vk g vn rl D := by unfold rdG; rw [HV.out.1, HV.out.2.1, HV.out.2.2.1, HV.out.2.2.2.1, HV.out.2.2.2.2, HKL.out, HD.out]
                by_cases hok : tcpOk vf vo vs vk g vn rl D
                · rw [decide_eq_true hok]
                  have HY := Lib.hid (rd_yes HHD.out HRD.out (hrd.mpr hok))
                  clear hok hrd
                  go_wp2_with (first | (refine wpList_load_row rfl 26 _ rfl B rfl 26 _ (0, 0) _ H5.out.2.2.2 Try.underlying26 rfl info_t ?_) | (refine wpList_store_row rfl 26 _ _ rfl C0 #[.int .i64 vf, .int .i64 vo, .int .i64 vs, .int .i64 vk, .int .i64 g, .int .i64 vn, .slice ra rl.length rc, .string ⟨D.toArray⟩] rfl rfl 26 _ H5.out.2.1 info_t rfl (by simp [Value.oneCell']) ?_))
                  refine bodyPost_ret (v := .tuple #[tcpV vf vo vs vk g vn ra rc rl D, .bool true]) (results_world Try.results9 _ _ C0 26 #[.int .i64 vf, .int .i64 vo, .int .i64 vs, .int .i64 vk, .int .i64 g, .int .i64 vn, .slice ra rl.length rc, .string ⟨D.toArray⟩] (0, 0) _ _ rfl rfl (setRow_heap w5 C0 _ _ 26 (0, 0) H5.out.2.1) Try.underlying26 rfl info_t) rfl ?_
                  rw [HY.out]
                  exact ⟨ra, rc, by rw [HV.out.1, HV.out.2.1, HV.out.2.2.1, HV.out.2.2.2.1, HV.out.2.2.2.2, HKL.out, HD.out], rg_row8 H5.out.2.2.1 HLT.out _, row_grown8 H5.out.1 (Nat.le_of_eq HC0.out.symm) _⟩
                · rw [decide_eq_false hok]
                  have HN := Lib.hid (rd_bad (a := a) (b := b) HRD.out (fun h => hok (hrd.mp h)))
                  clear hok hrd
                  go_wp2_with (refine wpList_store_row rfl 26 _ _ rfl C0 #[.int .i64 0, .int .i64 0, .int .i64 0, .int .i64 0, .int .i64 0, .int .i64 0, .slice none 0 0, .string ⟨#[]⟩] rfl rfl 26 _ H5.out.2.1 info_t rfl (by simp [Value.oneCell']) ?_)
                  refine bodyPost_ret (v := .tuple #[zeroT, .bool false]) (results_world Try.results9 _ _ C0 26 #[.int .i64 0, .int .i64 0, .int .i64 0, .int .i64 0, .int .i64 0, .int .i64 0, .slice none 0 0, .string ⟨#[]⟩] (0, 0) _ _ rfl rfl (setRow_heap w5 C0 _ _ 26 (0, 0) H5.out.2.1) Try.underlying26 rfl info_t) rfl ?_
                  rw [HN.out]
                  exact ⟨rfl, row_grown8 H5.out.1 (Nat.le_of_eq HC0.out.symm) _⟩
          · have o1 : ¬ (k : Int) < 20 := by omega
            have o2 : (S.size : Int) < (k : Int) := by omega
            have HN := Lib.hid (rd_no (a := a) (b := b) (g := g) (s := S.data.toList) (fun h => by have := h.2.2.2.2; rw [HKL.out, HS.out] at this; omega))
            clear hk20 hks
            go_wp2_with (refine wpList_store_row rfl 26 _ _ rfl C0 #[.int .i64 0, .int .i64 0, .int .i64 0, .int .i64 0, .int .i64 0, .int .i64 0, .slice none 0 0, .string ⟨#[]⟩] rfl rfl 26 _ H2.out.2 info_t rfl (by simp [Value.oneCell']) ?_)
            refine bodyPost_ret (v := .tuple #[zeroT, .bool false]) (results_world Try.results9 _ _ C0 26 #[.int .i64 0, .int .i64 0, .int .i64 0, .int .i64 0, .int .i64 0, .int .i64 0, .slice none 0 0, .string ⟨#[]⟩] (0, 0) _ _ rfl rfl (setRow_heap w2 C0 _ _ 26 (0, 0) H2.out.2) Try.underlying26 rfl info_t) rfl ?_
            rw [HN.out]
            exact ⟨rfl, row_grown8 H2.out.1 (Nat.le_of_eq HC0.out.symm) _⟩
      · have hzb : (z != 0) = true := by simpa using hz0
        have HN := Lib.hid (rd_no (a := a) (b := b) (g := g) (s := S.data.toList) (fun h => hz0 (hz ▸ h.2.1)))
        clear hz hz0
        go_wp2_with (refine wpList_store_row rfl 26 _ _ rfl C0 #[.int .i64 0, .int .i64 0, .int .i64 0, .int .i64 0, .int .i64 0, .int .i64 0, .slice none 0 0, .string ⟨#[]⟩] rfl rfl 26 _ H2.out.2 info_t rfl (by simp [Value.oneCell']) ?_)
        refine bodyPost_ret (v := .tuple #[zeroT, .bool false]) (results_world Try.results9 _ _ C0 26 #[.int .i64 0, .int .i64 0, .int .i64 0, .int .i64 0, .int .i64 0, .int .i64 0, .slice none 0 0, .string ⟨#[]⟩] (0, 0) _ _ rfl rfl (setRow_heap w2 C0 _ _ 26 (0, 0) H2.out.2) Try.underlying26 rfl info_t) rfl ?_
        rw [HN.out]
        exact ⟨rfl, row_grown8 H2.out.1 (Nat.le_of_eq HC0.out.symm) _⟩
    · have h3 : ¬ (S.size : Int) < 20 := by omega
      have h4 : (300 : Int) < (S.size : Int) := by omega
      have HN := Lib.hid (rd_no (a := a) (b := b) (g := g) (s := S.data.toList) (fun h => by have := h.1; rw [HS.out] at this; omega))
      go_wp2_with (first | (go_at_call 27; refine (seq_any _ _).mono ?_; rintro e w' ⟨rfl, rfl⟩; first | rw [HG.out.1] | rw [HG.out.2]) | (refine wpList_store_row rfl 26 _ _ rfl C0 #[.int .i64 0, .int .i64 0, .int .i64 0, .int .i64 0, .int .i64 0, .int .i64 0, .slice none 0 0, .string ⟨#[]⟩] rfl rfl 26 _ HB.out.2 info_t rfl (by simp [Value.oneCell']) ?_))
      refine bodyPost_ret (v := .tuple #[zeroT, .bool false]) (results_world Try.results9 _ _ C0 26 #[.int .i64 0, .int .i64 0, .int .i64 0, .int .i64 0, .int .i64 0, .int .i64 0, .slice none 0 0, .string ⟨#[]⟩] (0, 0) _ _ rfl rfl (setRow_heap w1 C0 _ _ 26 (0, 0) HB.out.2) Try.underlying26 rfl info_t) rfl ?_
      rw [HN.out]
      exact ⟨rfl, row_grown8 HB.out.1 (Nat.le_of_eq HC0.out.symm) _⟩

end Go.Proofs.Ythfhffcimjolgaa
