/- A step of a state of a pipe: the model's. -/
import Derived.Test.YteomllgkcolmhaaBbT
namespace Go.Proofs.Yteomllgkcolmhaa
open Go.RowKit

theorem own_setN {w w0 : World} {B B' C o c : Nat} {a : Option Addr} {v : Value} {l : List Rg} (h : OwnRg w B a c l) (h0 : OwnRg w0 B' a c l) (hC : w0.heap.size ≤ C) : OwnRg (w.setCell ⟨C, o, none⟩ v) B a c l := by
  refine h.kept (grownBy_set w C o v) ?_
  cases hv : Value.ownBlock (.slice a l.length c) with
  | none => exact .inl rfl
  | some g =>
    refine .inr fun e => ?_
    have := (h0.lt g hv).2
    simp at e
    omega

set_option maxRecDepth 100000 in
set_option maxHeartbeats 12000000 in
theorem step_spec (p : Int) (a : Option Addr) (c : Nat) (l : List Rg) (r f s t tx rx q fl : Int) (w : World) (h : RgAt w a l) (hl0 : l.length ≤ 1048576) : Calls Try.prog 8 #[bbV p a l.length c r f s t, .agg #[.int .i64 tx, .int .i64 rx], .int .i64 q, .int .i64 fl] w (BsPost w (stepB (⟨p, l, r, f, s, t⟩ : Bb) (tx, rx) q fl) (stepOk (⟨p, l, r, f, s, t⟩ : Bb) (tx, rx) q fl)) := by
  have H3 := Lib.hid (st3_new w (bbC p a l.length c r f s t) tx rx)
  have HR := Lib.hid (h.kept H3.out.g)
  clear h
  cases hok : bbOk p l r f s t
  · have HOK := Lib.hid hok
    have HNO := Lib.hid (show ¬ stepP (⟨p, l, r, f, s, t⟩ : Bb) (tx, rx) q fl from fun h => by have := h.1; rw [hok] at this; cases this)
    clear hok
    go_enter Try.func8, Try.ntmps8
    go_wp2_with fail
    generalize (((w.alloc (.cells (bbC p a l.length c r f s t) 26)).alloc (.cells #[.int .i64 tx, .int .i64 rx] 28)).alloc (.cells (#[.int .i64 0, .slice none 0 0, .int .i64 0, .int .i64 0, .int .i64 0, .int .i64 0]) 26)) = w3 at *
    refine (add_spec _ _ _ _ _ _ _ HR.out (by omega)).mono ?_
    rintro e w4 ⟨a5, c5, rfl, hg, ho⟩
    have H4 := Lib.hid (H3.out.keep hg)
    have HR4 := Lib.hid (HR.out.kept hg)
    have hs4 := hg.size
    have hlt3 := H3.out.r.lt
    have HO4 := Lib.hid (own_base ho (show w.heap.size + 1 + 1 + 1 ≤ w3.heap.size by omega))
    clear hg ho
    have b0 := (H4.out.b).c 0 rfl
    have b1 := (H4.out.b).c 1 rfl
    have b2 := (H4.out.b).c 2 rfl
    have b3 := (H4.out.b).c 3 rfl
    have b4 := (H4.out.b).c 4 rfl
    have b5 := (H4.out.b).c 5 rfl
    go_wp2_with fail
    refine (bb_ok_spec _ _ _ _ _ _ _ _ _ HR4.out (by omega)).mono ?_
    rintro e w5 ⟨rfl, hg⟩
    rw [HOK.out]
    have H5 := Lib.hid (H4.out.keep hg)
    have HO5 := Lib.hid (own_kept HO4.out hg)
    have hs5 := hg.size
    clear hg b0 b1 b2 b3 b4 b5
    have b0 := (H5.out.b).c 0 rfl
    have b1 := (H5.out.b).c 1 rfl
    have b2 := (H5.out.b).c 2 rfl
    have b3 := (H5.out.b).c 3 rfl
    have b4 := (H5.out.b).c 4 rfl
    have b5 := (H5.out.b).c 5 rfl
    have z0 := (H5.out.r).c 0 rfl
    have z1 := (H5.out.r).c 1 rfl
    have z2 := (H5.out.r).c 2 rfl
    have z3 := (H5.out.r).c 3 rfl
    have z4 := (H5.out.r).c 4 rfl
    have z5 := (H5.out.r).c 5 rfl
    have zf0 := (H5.out.r).f 0
    have zf1 := (H5.out.r).f 1
    have zf2 := (H5.out.r).f 2
    have zf3 := (H5.out.r).f 3
    have zf4 := (H5.out.r).f 4
    have zf5 := (H5.out.r).f 5
    have hsB : w.heap.size < w5.heap.size := H5.out.b.lt
    have hsN : w.heap.size + 1 + 1 < w5.heap.size := H5.out.r.lt
    go_wp2_with fail
    refine bodyPost_ret (v := .tuple #[bbV 0 none 0 0 0 0 0 0, .bool false]) ?_ rfl (bs_no HNO.out ?_)
    · simp [results, Try.results8, go_sem, z0, z1, z2, z3, z4, z5]
    · repeat (first | with_reducible exact H5.out.g | with_reducible refine gS ?_ (by omega) _ _)
  · have HOK := Lib.hid hok
    obtain ⟨hlp, hr2, hf2, hph⟩ := bb_of hok
    have hln := hlp.1
    have hw10 : IntKind.i64.wrap (10 * r) = 10 * r := wq (by omega)
    clear hok hlp
    cases hao : addOk l (tx, rx) (10 * r)
    · have HAO := Lib.hid hao
      have HNO := Lib.hid (show ¬ stepP (⟨p, l, r, f, s, t⟩ : Bb) (tx, rx) q fl from fun h => by have := addOk_yes h.2.2.2; rw [hao] at this; cases this)
      clear hph hao
      go_enter Try.func8, Try.ntmps8
      go_wp2_with fail
      generalize (((w.alloc (.cells (bbC p a l.length c r f s t) 26)).alloc (.cells #[.int .i64 tx, .int .i64 rx] 28)).alloc (.cells (#[.int .i64 0, .slice none 0 0, .int .i64 0, .int .i64 0, .int .i64 0, .int .i64 0]) 26)) = w3 at *
      refine (add_spec _ _ _ _ _ _ _ HR.out (by omega)).mono ?_
      rintro e w4 ⟨a5, c5, rfl, hg, ho⟩
      rw [HAO.out]
      have H4 := Lib.hid (H3.out.keep hg)
      have HR4 := Lib.hid (HR.out.kept hg)
      have hs4 := hg.size
      have hlt3 := H3.out.r.lt
      have HO4 := Lib.hid (own_base ho (show w.heap.size + 1 + 1 + 1 ≤ w3.heap.size by omega))
      clear hg ho
      have b0 := (H4.out.b).c 0 rfl
      have b1 := (H4.out.b).c 1 rfl
      have b2 := (H4.out.b).c 2 rfl
      have b3 := (H4.out.b).c 3 rfl
      have b4 := (H4.out.b).c 4 rfl
      have b5 := (H4.out.b).c 5 rfl
      go_wp2_with fail
      refine (bb_ok_spec _ _ _ _ _ _ _ _ _ HR4.out (by omega)).mono ?_
      rintro e w5 ⟨rfl, hg⟩
      rw [HOK.out]
      have H5 := Lib.hid (H4.out.keep hg)
      have HO5 := Lib.hid (own_kept HO4.out hg)
      have hs5 := hg.size
      clear hg b0 b1 b2 b3 b4 b5
      have b0 := (H5.out.b).c 0 rfl
      have b1 := (H5.out.b).c 1 rfl
      have b2 := (H5.out.b).c 2 rfl
      have b3 := (H5.out.b).c 3 rfl
      have b4 := (H5.out.b).c 4 rfl
      have b5 := (H5.out.b).c 5 rfl
      have z0 := (H5.out.r).c 0 rfl
      have z1 := (H5.out.r).c 1 rfl
      have z2 := (H5.out.r).c 2 rfl
      have z3 := (H5.out.r).c 3 rfl
      have z4 := (H5.out.r).c 4 rfl
      have z5 := (H5.out.r).c 5 rfl
      have zf0 := (H5.out.r).f 0
      have zf1 := (H5.out.r).f 1
      have zf2 := (H5.out.r).f 2
      have zf3 := (H5.out.r).f 3
      have zf4 := (H5.out.r).f 4
      have zf5 := (H5.out.r).f 5
      have hsB : w.heap.size < w5.heap.size := H5.out.b.lt
      have hsN : w.heap.size + 1 + 1 < w5.heap.size := H5.out.r.lt
      go_wp2_with fail
      refine bodyPost_ret (v := .tuple #[bbV 0 none 0 0 0 0 0 0, .bool false]) ?_ rfl (bs_no HNO.out ?_)
      · simp [results, Try.results8, go_sem, z0, z1, z2, z3, z4, z5]
      · repeat (first | with_reducible exact H5.out.g | with_reducible refine gS ?_ (by omega) _ _)
    · have HAO := Lib.hid hao
      have haP := addOk_of hao
      have HAL := Lib.hid (addL_yes haP)
      have HFA := Lib.hid (show ∀ W b cb, RgAt W b l → Calls Try.prog 27 #[.slice b l.length cb, .agg #[.int .i64 tx, .int .i64 rx], .int .i64 (10 * r)] W (fun e w' => ∃ ao co, e = .returned (.tuple #[.slice ao (addF l (tx, rx) (10 * r)).length co, .bool true]) ∧ W.grownBy w' none ∧ OwnRg w' W.heap.size ao co (addF l (tx, rx) (10 * r))) from fun W b cb hb => (add_spec b cb l tx rx (10 * r) W hb (by omega)).mono (fun e w' hh => by rw [AddPost, HAL.out, HAO.out] at hh; exact hh))
      have HLP := Lib.hid (show flP (addF l (tx, rx) (10 * r)) ∧ 0 < (addF l (tx, rx) (10 * r)).length from ⟨haP.2.2.2.2.2, by simp [addF]⟩)
      have HAP := Lib.hid haP
      clear hao haP
      cases hq : inB q 1 60000
      · have HQ := Lib.hid hq
        have HNO := Lib.hid (show ¬ stepP (⟨p, l, r, f, s, t⟩ : Bb) (tx, rx) q fl from fun h => by have := h.2.1; rw [hq] at this; cases this)
        clear hq hph
        go_enter Try.func8, Try.ntmps8
        go_wp2_with fail
        generalize (((w.alloc (.cells (bbC p a l.length c r f s t) 26)).alloc (.cells #[.int .i64 tx, .int .i64 rx] 28)).alloc (.cells (#[.int .i64 0, .slice none 0 0, .int .i64 0, .int .i64 0, .int .i64 0, .int .i64 0]) 26)) = w3 at *
        refine (HFA.out _ _ _ HR.out).mono ?_
        rintro e w4 ⟨a5, c5, rfl, hg, ho⟩
        have H4 := Lib.hid (H3.out.keep hg)
        have HR4 := Lib.hid (HR.out.kept hg)
        have hs4 := hg.size
        have hlt3 := H3.out.r.lt
        have HO4 := Lib.hid (own_base ho (show w.heap.size + 1 + 1 + 1 ≤ w3.heap.size by omega))
        clear hg ho
        have b0 := (H4.out.b).c 0 rfl
        have b1 := (H4.out.b).c 1 rfl
        have b2 := (H4.out.b).c 2 rfl
        have b3 := (H4.out.b).c 3 rfl
        have b4 := (H4.out.b).c 4 rfl
        have b5 := (H4.out.b).c 5 rfl
        go_wp2_with fail
        refine (bb_ok_spec _ _ _ _ _ _ _ _ _ HR4.out (by omega)).mono ?_
        rintro e w5 ⟨rfl, hg⟩
        rw [HOK.out]
        have H5 := Lib.hid (H4.out.keep hg)
        have HO5 := Lib.hid (own_kept HO4.out hg)
        have hs5 := hg.size
        clear hg b0 b1 b2 b3 b4 b5
        have b0 := (H5.out.b).c 0 rfl
        have b1 := (H5.out.b).c 1 rfl
        have b2 := (H5.out.b).c 2 rfl
        have b3 := (H5.out.b).c 3 rfl
        have b4 := (H5.out.b).c 4 rfl
        have b5 := (H5.out.b).c 5 rfl
        have z0 := (H5.out.r).c 0 rfl
        have z1 := (H5.out.r).c 1 rfl
        have z2 := (H5.out.r).c 2 rfl
        have z3 := (H5.out.r).c 3 rfl
        have z4 := (H5.out.r).c 4 rfl
        have z5 := (H5.out.r).c 5 rfl
        have zf0 := (H5.out.r).f 0
        have zf1 := (H5.out.r).f 1
        have zf2 := (H5.out.r).f 2
        have zf3 := (H5.out.r).f 3
        have zf4 := (H5.out.r).f 4
        have zf5 := (H5.out.r).f 5
        have hsB : w.heap.size < w5.heap.size := H5.out.b.lt
        have hsN : w.heap.size + 1 + 1 < w5.heap.size := H5.out.r.lt
        go_wp2_with (go_at_call 28; refine (in_any _ _ _ _).mono ?_; rintro e w' ⟨rfl, rfl⟩; rw [HQ.out])
        refine bodyPost_ret (v := .tuple #[bbV 0 none 0 0 0 0 0 0, .bool false]) ?_ rfl (bs_no HNO.out ?_)
        · simp [results, Try.results8, go_sem, z0, z1, z2, z3, z4, z5]
        · repeat (first | with_reducible exact H5.out.g | with_reducible refine gS ?_ (by omega) _ _)
      · have HQ := Lib.hid hq
        have hq2 := in_of hq
        cases hfl : inB fl 0 1000000000
        · have HF := Lib.hid hfl
          have HNO := Lib.hid (show ¬ stepP (⟨p, l, r, f, s, t⟩ : Bb) (tx, rx) q fl from fun h => by have := h.2.2.1; rw [hfl] at this; cases this)
          clear hq hfl hph
          go_enter Try.func8, Try.ntmps8
          go_wp2_with fail
          generalize (((w.alloc (.cells (bbC p a l.length c r f s t) 26)).alloc (.cells #[.int .i64 tx, .int .i64 rx] 28)).alloc (.cells (#[.int .i64 0, .slice none 0 0, .int .i64 0, .int .i64 0, .int .i64 0, .int .i64 0]) 26)) = w3 at *
          refine (HFA.out _ _ _ HR.out).mono ?_
          rintro e w4 ⟨a5, c5, rfl, hg, ho⟩
          have H4 := Lib.hid (H3.out.keep hg)
          have HR4 := Lib.hid (HR.out.kept hg)
          have hs4 := hg.size
          have hlt3 := H3.out.r.lt
          have HO4 := Lib.hid (own_base ho (show w.heap.size + 1 + 1 + 1 ≤ w3.heap.size by omega))
          clear hg ho
          have b0 := (H4.out.b).c 0 rfl
          have b1 := (H4.out.b).c 1 rfl
          have b2 := (H4.out.b).c 2 rfl
          have b3 := (H4.out.b).c 3 rfl
          have b4 := (H4.out.b).c 4 rfl
          have b5 := (H4.out.b).c 5 rfl
          go_wp2_with fail
          refine (bb_ok_spec _ _ _ _ _ _ _ _ _ HR4.out (by omega)).mono ?_
          rintro e w5 ⟨rfl, hg⟩
          rw [HOK.out]
          have H5 := Lib.hid (H4.out.keep hg)
          have HO5 := Lib.hid (own_kept HO4.out hg)
          have hs5 := hg.size
          clear hg b0 b1 b2 b3 b4 b5
          have b0 := (H5.out.b).c 0 rfl
          have b1 := (H5.out.b).c 1 rfl
          have b2 := (H5.out.b).c 2 rfl
          have b3 := (H5.out.b).c 3 rfl
          have b4 := (H5.out.b).c 4 rfl
          have b5 := (H5.out.b).c 5 rfl
          have z0 := (H5.out.r).c 0 rfl
          have z1 := (H5.out.r).c 1 rfl
          have z2 := (H5.out.r).c 2 rfl
          have z3 := (H5.out.r).c 3 rfl
          have z4 := (H5.out.r).c 4 rfl
          have z5 := (H5.out.r).c 5 rfl
          have zf0 := (H5.out.r).f 0
          have zf1 := (H5.out.r).f 1
          have zf2 := (H5.out.r).f 2
          have zf3 := (H5.out.r).f 3
          have zf4 := (H5.out.r).f 4
          have zf5 := (H5.out.r).f 5
          have hsB : w.heap.size < w5.heap.size := H5.out.b.lt
          have hsN : w.heap.size + 1 + 1 < w5.heap.size := H5.out.r.lt
          go_wp2_with (go_at_call 28; refine (in_any _ _ _ _).mono ?_; rintro e w' ⟨rfl, rfl⟩; first | rw [HQ.out] | rw [HF.out])
          refine bodyPost_ret (v := .tuple #[bbV 0 none 0 0 0 0 0 0, .bool false]) ?_ rfl (bs_no HNO.out ?_)
          · simp [results, Try.results8, go_sem, z0, z1, z2, z3, z4, z5]
          · repeat (first | with_reducible exact H5.out.g | with_reducible refine gS ?_ (by omega) _ _)
        · have HF := Lib.hid hfl
          have HYES := Lib.hid (show stepP (⟨p, l, r, f, s, t⟩ : Bb) (tx, rx) q fl from ⟨HOK.out, hq, hfl, HAP.out⟩)
          clear hq hfl
          rcases hph with ⟨rfl, hs1, hs2, ht1⟩ | ⟨rfl, hs1, hl1, ht1⟩ | ⟨rfl, hs1, hl1, ht1, ht2⟩
          · clear ht1
            have hmm : r < q ∨ r = q ∨ q < r := by omega
            rcases hmm with hm | hm | hm
            · have hm2 : ¬ q < r := by omega
              have hm3 : ¬ q ≤ r := by omega
              have hm5 : r ≤ q := by omega
              have hm4 : min r q = r := by omega
              have HMN := Lib.hid (show mnI r q = r from if_pos hm)
              have hR2 : 1 ≤ r ∧ r ≤ 60000 := by omega
              have HUU := Lib.hid (show stepN (⟨1, l, r, f, s, t⟩ : Bb) (tx, rx) q fl = upF (addF l (tx, rx) (10 * r)) r f s t by simp [stepN, HMN.out])
              go_enter Try.func8, Try.ntmps8
              go_wp2_with fail
              generalize (((w.alloc (.cells (bbC 1 a l.length c r f s t) 26)).alloc (.cells #[.int .i64 tx, .int .i64 rx] 28)).alloc (.cells (#[.int .i64 0, .slice none 0 0, .int .i64 0, .int .i64 0, .int .i64 0, .int .i64 0]) 26)) = w3 at *
              refine (HFA.out _ _ _ HR.out).mono ?_
              rintro e w4 ⟨a5, c5, rfl, hg, ho⟩
              have H4 := Lib.hid (H3.out.keep hg)
              have HR4 := Lib.hid (HR.out.kept hg)
              have hs4 := hg.size
              have hlt3 := H3.out.r.lt
              have HO4 := Lib.hid (own_base ho (show w.heap.size + 1 + 1 + 1 ≤ w3.heap.size by omega))
              clear hg ho
              have b0 := (H4.out.b).c 0 rfl
              have b1 := (H4.out.b).c 1 rfl
              have b2 := (H4.out.b).c 2 rfl
              have b3 := (H4.out.b).c 3 rfl
              have b4 := (H4.out.b).c 4 rfl
              have b5 := (H4.out.b).c 5 rfl
              go_wp2_with fail
              refine (bb_ok_spec _ _ _ _ _ _ _ _ _ HR4.out (by omega)).mono ?_
              rintro e w5 ⟨rfl, hg⟩
              rw [HOK.out]
              have H5 := Lib.hid (H4.out.keep hg)
              have HO5 := Lib.hid (own_kept HO4.out hg)
              have hs5 := hg.size
              clear hg b0 b1 b2 b3 b4 b5
              have b0 := (H5.out.b).c 0 rfl
              have b1 := (H5.out.b).c 1 rfl
              have b2 := (H5.out.b).c 2 rfl
              have b3 := (H5.out.b).c 3 rfl
              have b4 := (H5.out.b).c 4 rfl
              have b5 := (H5.out.b).c 5 rfl
              have z0 := (H5.out.r).c 0 rfl
              have z1 := (H5.out.r).c 1 rfl
              have z2 := (H5.out.r).c 2 rfl
              have z3 := (H5.out.r).c 3 rfl
              have z4 := (H5.out.r).c 4 rfl
              have z5 := (H5.out.r).c 5 rfl
              have zf0 := (H5.out.r).f 0
              have zf1 := (H5.out.r).f 1
              have zf2 := (H5.out.r).f 2
              have zf3 := (H5.out.r).f 3
              have zf4 := (H5.out.r).f 4
              have zf5 := (H5.out.r).f 5
              have hsB : w.heap.size < w5.heap.size := H5.out.b.lt
              have hsN : w.heap.size + 1 + 1 < w5.heap.size := H5.out.r.lt
              generalize addF l (tx, rx) (10 * r) = L at *
              have hN := Bx.new w5 26 (bbC 1 a5 L.length c5 r f s t)
              have gN := World.grownBy_alloc w5 (.cells (bbC 1 a5 L.length c5 r f s t) 26) none
              have H7 := Lib.hid (And.intro (H5.out.keep gN) (And.intro hN (And.intro (own_kept HO5.out gN) (rg_own (own_kept HO5.out gN)))))
              clear hN gN
              have hbb := rate_bd L
              have he : bestF L = (L[0]'HLP.out.2).2 := bestF_yes HLP.out.1 HLP.out.2
              have he2 : rateF L = (L[0]'HLP.out.2).2 := rate_at HLP.out.1 HLP.out.2
              rw [he2] at hbb
              have hL0 : (0 : Int) < (L.length : Int) := by have := HLP.out.2; omega
              have HUX0 := Lib.hid (HUU.out)
              have HC := Lib.hid (show ∃ b off, a5 = some ⟨b, off, none⟩ ∧ (w5.alloc (.cells (bbC 1 a5 L.length c5 r f s t) 26)).cell? ⟨b, off + 1, none⟩ = some (.int .i64 (L[0]'HLP.out.2).2) by
                rcases H7.out.2.2.2 with hn | ⟨b, off, ha, hb, hc⟩
                · have := HLP.out.2; rw [hn] at this; simp at this
                · exact ⟨b, off, ha, by have := (hc 0 HLP.out.2).2; simpa using this⟩)
              have HE := Lib.hid he
              generalize (L[0]'HLP.out.2).2 = y at *
              clear he he2
              obtain ⟨hb0, hb1⟩ := hbb
              have hw1 : IntKind.i64.wrap (f.tdiv 4) = f / 4 := by rw [Int.tdiv_eq_ediv_of_nonneg hf2.1]; exact wq (by omega)
              have hw2 : IntKind.i64.wrap (f + f / 4) = f + f / 4 := wq (by omega)
              have hw3 : IntKind.i64.wrap (s + 1) = s + 1 := wq (by omega)
              have HUP := Lib.hid (show upF L r f s t = if 0 < y ∧ f + f / 4 ≤ y then ⟨1, L, r, y, 0, t⟩ else ⟨if s + 1 = 3 then 2 else 1, L, r, f, s + 1, t⟩ by rw [upF, HE.out])
              by_cases hc : 0 < y ∧ f + f / 4 ≤ y
              · have HUX := Lib.hid (show stepN (⟨1, l, r, f, s, t⟩ : Bb) (tx, rx) q fl = ⟨1, L, r, y, 0, t⟩ by rw [HUX0.out, HUP.out, if_pos hc])
                obtain ⟨hc1, hc2⟩ := hc
                have hc3 : decide (0 < y) = true := decide_eq_true hc1
                have hc4 : decide (f + f / 4 ≤ y) = true := decide_eq_true hc2
                obtain ⟨bq, oq, he9, d0⟩ := HC.out
                subst he9
                go_wp2_with (go_at_call 28; refine (in_any _ _ _ _).mono ?_; rintro e w' ⟨rfl, rfl⟩; first | rw [HQ.out] | rw [HF.out])
                generalize w5.alloc (.cells (bbC 1 (some ⟨bq, oq, none⟩) L.length c5 r f s t) 26) = w7 at *
                clear b0 b1 b2 b3 b4 b5
                have b0 := (H7.out.1.b).c 0 rfl
                have b1 := (H7.out.1.b).c 1 rfl
                have b2 := (H7.out.1.b).c 2 rfl
                have b3 := (H7.out.1.b).c 3 rfl
                have b4 := (H7.out.1.b).c 4 rfl
                have b5 := (H7.out.1.b).c 5 rfl
                go_quiet (fail)
                have H8 := Lib.hid (And.intro (H7.out.1.keep (grownBy_drewN nq)) (And.intro (H7.out.2.1.drew nq) (own_kept H7.out.2.2.1 (grownBy_drewN nq))))
                have d8 := (grownBy_drewN nq (r := none)).cell d0 (by simp)
                clear d0 z0 z1 z2 z3 z4 z5 zf0 zf1 zf2 zf3 zf4 zf5
                generalize w7.drewN nq = w8 at *
                have z0 := (H8.out.1.r).c 0 rfl
                have z1 := (H8.out.1.r).c 1 rfl
                have z2 := (H8.out.1.r).c 2 rfl
                have z3 := (H8.out.1.r).c 3 rfl
                have z4 := (H8.out.1.r).c 4 rfl
                have z5 := (H8.out.1.r).c 5 rfl
                have zf0 := (H8.out.1.r).f 0
                have zf1 := (H8.out.1.r).f 1
                have zf2 := (H8.out.1.r).f 2
                have zf3 := (H8.out.1.r).f 3
                have zf4 := (H8.out.1.r).f 4
                have zf5 := (H8.out.1.r).f 5
                have n0 := (H8.out.2.1).c 0 rfl
                have n1 := (H8.out.2.1).c 1 rfl
                have n2 := (H8.out.2.1).c 2 rfl
                have n3 := (H8.out.2.1).c 3 rfl
                have n4 := (H8.out.2.1).c 4 rfl
                have n5 := (H8.out.2.1).c 5 rfl
                have nf0 := (H8.out.2.1).f 0
                have nf1 := (H8.out.2.1).f 1
                have nf2 := (H8.out.2.1).f 2
                have nf3 := (H8.out.2.1).f 3
                have nf4 := (H8.out.2.1).f 4
                have nf5 := (H8.out.2.1).f 5
                go_wp2_with fail
                refine bodyPost_ret (v := .tuple #[bbV 1 (some ⟨bq, oq, none⟩) L.length c5 r y 0 t, .bool true]) ?_ rfl (bs_yes HYES.out HUX.out ?_ ?_ (show w.heap.size ≤ w.heap.size + 1 + 1 + 1 by omega))
                · simp [results, Try.results8, go_sem, z0, z1, z2, z3, z4, z5]
                · repeat (first | with_reducible exact H8.out.1.g | with_reducible refine gS ?_ (by omega) _ _)
                · repeat (first | with_reducible exact H8.out.2.2 | with_reducible refine own_setB ?_ (by omega) | with_reducible refine own_setN ?_ HO5.out (Nat.le_refl _))
              · by_cases hs3 : s + 1 = 3
                · have HUX := Lib.hid (show stepN (⟨1, l, r, f, s, t⟩ : Bb) (tx, rx) q fl = ⟨2, L, r, f, s + 1, t⟩ by rw [HUX0.out, HUP.out, if_neg hc, if_pos hs3])
                  have hs6 : (s + 1 == 3) = true := by simpa using hs3
                  have HS3 := Lib.hid hs3
                  clear hs3
                  by_cases hc2 : f + f / 4 ≤ y
                  · have hc1 : ¬ 0 < y := fun k => hc ⟨k, hc2⟩
                    have hc3 : decide (0 < y) = false := decide_eq_false hc1
                    have hc4 : decide (f + f / 4 ≤ y) = true := decide_eq_true hc2
                    clear hc
                    obtain ⟨bq, oq, he9, d0⟩ := HC.out
                    subst he9
                    go_wp2_with (go_at_call 28; refine (in_any _ _ _ _).mono ?_; rintro e w' ⟨rfl, rfl⟩; first | rw [HQ.out] | rw [HF.out])
                    generalize w5.alloc (.cells (bbC 1 (some ⟨bq, oq, none⟩) L.length c5 r f s t) 26) = w7 at *
                    clear b0 b1 b2 b3 b4 b5
                    have b0 := (H7.out.1.b).c 0 rfl
                    have b1 := (H7.out.1.b).c 1 rfl
                    have b2 := (H7.out.1.b).c 2 rfl
                    have b3 := (H7.out.1.b).c 3 rfl
                    have b4 := (H7.out.1.b).c 4 rfl
                    have b5 := (H7.out.1.b).c 5 rfl
                    go_quiet (fail)
                    have H8 := Lib.hid (And.intro (H7.out.1.keep (grownBy_drewN nq)) (And.intro (H7.out.2.1.drew nq) (own_kept H7.out.2.2.1 (grownBy_drewN nq))))
                    have d8 := (grownBy_drewN nq (r := none)).cell d0 (by simp)
                    clear d0 z0 z1 z2 z3 z4 z5 zf0 zf1 zf2 zf3 zf4 zf5
                    generalize w7.drewN nq = w8 at *
                    have z0 := (H8.out.1.r).c 0 rfl
                    have z1 := (H8.out.1.r).c 1 rfl
                    have z2 := (H8.out.1.r).c 2 rfl
                    have z3 := (H8.out.1.r).c 3 rfl
                    have z4 := (H8.out.1.r).c 4 rfl
                    have z5 := (H8.out.1.r).c 5 rfl
                    have zf0 := (H8.out.1.r).f 0
                    have zf1 := (H8.out.1.r).f 1
                    have zf2 := (H8.out.1.r).f 2
                    have zf3 := (H8.out.1.r).f 3
                    have zf4 := (H8.out.1.r).f 4
                    have zf5 := (H8.out.1.r).f 5
                    have n0 := (H8.out.2.1).c 0 rfl
                    have n1 := (H8.out.2.1).c 1 rfl
                    have n2 := (H8.out.2.1).c 2 rfl
                    have n3 := (H8.out.2.1).c 3 rfl
                    have n4 := (H8.out.2.1).c 4 rfl
                    have n5 := (H8.out.2.1).c 5 rfl
                    have nf0 := (H8.out.2.1).f 0
                    have nf1 := (H8.out.2.1).f 1
                    have nf2 := (H8.out.2.1).f 2
                    have nf3 := (H8.out.2.1).f 3
                    have nf4 := (H8.out.2.1).f 4
                    have nf5 := (H8.out.2.1).f 5
                    go_wp2_with fail
                    refine bodyPost_ret (v := .tuple #[bbV 2 (some ⟨bq, oq, none⟩) L.length c5 r f (s + 1) t, .bool true]) ?_ rfl (bs_yes HYES.out HUX.out ?_ ?_ (show w.heap.size ≤ w.heap.size + 1 + 1 + 1 by omega))
                    · simp [results, Try.results8, go_sem, z0, z1, z2, z3, z4, z5]
                    · repeat (first | with_reducible exact H8.out.1.g | with_reducible refine gS ?_ (by omega) _ _)
                    · repeat (first | with_reducible exact H8.out.2.2 | with_reducible refine own_setB ?_ (by omega) | with_reducible refine own_setN ?_ HO5.out (Nat.le_refl _))
                  · have hc4 : decide (f + f / 4 ≤ y) = false := decide_eq_false hc2
                    clear hc
                    obtain ⟨bq, oq, he9, d0⟩ := HC.out
                    subst he9
                    go_wp2_with (go_at_call 28; refine (in_any _ _ _ _).mono ?_; rintro e w' ⟨rfl, rfl⟩; first | rw [HQ.out] | rw [HF.out])
                    generalize w5.alloc (.cells (bbC 1 (some ⟨bq, oq, none⟩) L.length c5 r f s t) 26) = w7 at *
                    clear b0 b1 b2 b3 b4 b5
                    have b0 := (H7.out.1.b).c 0 rfl
                    have b1 := (H7.out.1.b).c 1 rfl
                    have b2 := (H7.out.1.b).c 2 rfl
                    have b3 := (H7.out.1.b).c 3 rfl
                    have b4 := (H7.out.1.b).c 4 rfl
                    have b5 := (H7.out.1.b).c 5 rfl
                    go_quiet (fail)
                    have H8 := Lib.hid (And.intro (H7.out.1.keep (grownBy_drewN nq)) (And.intro (H7.out.2.1.drew nq) (own_kept H7.out.2.2.1 (grownBy_drewN nq))))
                    have d8 := (grownBy_drewN nq (r := none)).cell d0 (by simp)
                    clear d0 z0 z1 z2 z3 z4 z5 zf0 zf1 zf2 zf3 zf4 zf5
                    generalize w7.drewN nq = w8 at *
                    have z0 := (H8.out.1.r).c 0 rfl
                    have z1 := (H8.out.1.r).c 1 rfl
                    have z2 := (H8.out.1.r).c 2 rfl
                    have z3 := (H8.out.1.r).c 3 rfl
                    have z4 := (H8.out.1.r).c 4 rfl
                    have z5 := (H8.out.1.r).c 5 rfl
                    have zf0 := (H8.out.1.r).f 0
                    have zf1 := (H8.out.1.r).f 1
                    have zf2 := (H8.out.1.r).f 2
                    have zf3 := (H8.out.1.r).f 3
                    have zf4 := (H8.out.1.r).f 4
                    have zf5 := (H8.out.1.r).f 5
                    have n0 := (H8.out.2.1).c 0 rfl
                    have n1 := (H8.out.2.1).c 1 rfl
                    have n2 := (H8.out.2.1).c 2 rfl
                    have n3 := (H8.out.2.1).c 3 rfl
                    have n4 := (H8.out.2.1).c 4 rfl
                    have n5 := (H8.out.2.1).c 5 rfl
                    have nf0 := (H8.out.2.1).f 0
                    have nf1 := (H8.out.2.1).f 1
                    have nf2 := (H8.out.2.1).f 2
                    have nf3 := (H8.out.2.1).f 3
                    have nf4 := (H8.out.2.1).f 4
                    have nf5 := (H8.out.2.1).f 5
                    go_wp2_with fail
                    refine bodyPost_ret (v := .tuple #[bbV 2 (some ⟨bq, oq, none⟩) L.length c5 r f (s + 1) t, .bool true]) ?_ rfl (bs_yes HYES.out HUX.out ?_ ?_ (show w.heap.size ≤ w.heap.size + 1 + 1 + 1 by omega))
                    · simp [results, Try.results8, go_sem, z0, z1, z2, z3, z4, z5]
                    · repeat (first | with_reducible exact H8.out.1.g | with_reducible refine gS ?_ (by omega) _ _)
                    · repeat (first | with_reducible exact H8.out.2.2 | with_reducible refine own_setB ?_ (by omega) | with_reducible refine own_setN ?_ HO5.out (Nat.le_refl _))
                · have HUX := Lib.hid (show stepN (⟨1, l, r, f, s, t⟩ : Bb) (tx, rx) q fl = ⟨1, L, r, f, s + 1, t⟩ by rw [HUX0.out, HUP.out, if_neg hc, if_neg hs3])
                  have hs6 : (s + 1 == 3) = false := beq_false_of_ne hs3
                  clear hs3
                  by_cases hc2 : f + f / 4 ≤ y
                  · have hc1 : ¬ 0 < y := fun k => hc ⟨k, hc2⟩
                    have hc3 : decide (0 < y) = false := decide_eq_false hc1
                    have hc4 : decide (f + f / 4 ≤ y) = true := decide_eq_true hc2
                    clear hc
                    obtain ⟨bq, oq, he9, d0⟩ := HC.out
                    subst he9
                    go_wp2_with (go_at_call 28; refine (in_any _ _ _ _).mono ?_; rintro e w' ⟨rfl, rfl⟩; first | rw [HQ.out] | rw [HF.out])
                    generalize w5.alloc (.cells (bbC 1 (some ⟨bq, oq, none⟩) L.length c5 r f s t) 26) = w7 at *
                    clear b0 b1 b2 b3 b4 b5
                    have b0 := (H7.out.1.b).c 0 rfl
                    have b1 := (H7.out.1.b).c 1 rfl
                    have b2 := (H7.out.1.b).c 2 rfl
                    have b3 := (H7.out.1.b).c 3 rfl
                    have b4 := (H7.out.1.b).c 4 rfl
                    have b5 := (H7.out.1.b).c 5 rfl
                    go_quiet (fail)
                    have H8 := Lib.hid (And.intro (H7.out.1.keep (grownBy_drewN nq)) (And.intro (H7.out.2.1.drew nq) (own_kept H7.out.2.2.1 (grownBy_drewN nq))))
                    have d8 := (grownBy_drewN nq (r := none)).cell d0 (by simp)
                    clear d0 z0 z1 z2 z3 z4 z5 zf0 zf1 zf2 zf3 zf4 zf5
                    generalize w7.drewN nq = w8 at *
                    have z0 := (H8.out.1.r).c 0 rfl
                    have z1 := (H8.out.1.r).c 1 rfl
                    have z2 := (H8.out.1.r).c 2 rfl
                    have z3 := (H8.out.1.r).c 3 rfl
                    have z4 := (H8.out.1.r).c 4 rfl
                    have z5 := (H8.out.1.r).c 5 rfl
                    have zf0 := (H8.out.1.r).f 0
                    have zf1 := (H8.out.1.r).f 1
                    have zf2 := (H8.out.1.r).f 2
                    have zf3 := (H8.out.1.r).f 3
                    have zf4 := (H8.out.1.r).f 4
                    have zf5 := (H8.out.1.r).f 5
                    have n0 := (H8.out.2.1).c 0 rfl
                    have n1 := (H8.out.2.1).c 1 rfl
                    have n2 := (H8.out.2.1).c 2 rfl
                    have n3 := (H8.out.2.1).c 3 rfl
                    have n4 := (H8.out.2.1).c 4 rfl
                    have n5 := (H8.out.2.1).c 5 rfl
                    have nf0 := (H8.out.2.1).f 0
                    have nf1 := (H8.out.2.1).f 1
                    have nf2 := (H8.out.2.1).f 2
                    have nf3 := (H8.out.2.1).f 3
                    have nf4 := (H8.out.2.1).f 4
                    have nf5 := (H8.out.2.1).f 5
                    go_wp2_with fail
                    refine bodyPost_ret (v := .tuple #[bbV 1 (some ⟨bq, oq, none⟩) L.length c5 r f (s + 1) t, .bool true]) ?_ rfl (bs_yes HYES.out HUX.out ?_ ?_ (show w.heap.size ≤ w.heap.size + 1 + 1 + 1 by omega))
                    · simp [results, Try.results8, go_sem, z0, z1, z2, z3, z4, z5]
                    · repeat (first | with_reducible exact H8.out.1.g | with_reducible refine gS ?_ (by omega) _ _)
                    · repeat (first | with_reducible exact H8.out.2.2 | with_reducible refine own_setB ?_ (by omega) | with_reducible refine own_setN ?_ HO5.out (Nat.le_refl _))
                  · have hc4 : decide (f + f / 4 ≤ y) = false := decide_eq_false hc2
                    clear hc
                    obtain ⟨bq, oq, he9, d0⟩ := HC.out
                    subst he9
                    go_wp2_with (go_at_call 28; refine (in_any _ _ _ _).mono ?_; rintro e w' ⟨rfl, rfl⟩; first | rw [HQ.out] | rw [HF.out])
                    generalize w5.alloc (.cells (bbC 1 (some ⟨bq, oq, none⟩) L.length c5 r f s t) 26) = w7 at *
                    clear b0 b1 b2 b3 b4 b5
                    have b0 := (H7.out.1.b).c 0 rfl
                    have b1 := (H7.out.1.b).c 1 rfl
                    have b2 := (H7.out.1.b).c 2 rfl
                    have b3 := (H7.out.1.b).c 3 rfl
                    have b4 := (H7.out.1.b).c 4 rfl
                    have b5 := (H7.out.1.b).c 5 rfl
                    go_quiet (fail)
                    have H8 := Lib.hid (And.intro (H7.out.1.keep (grownBy_drewN nq)) (And.intro (H7.out.2.1.drew nq) (own_kept H7.out.2.2.1 (grownBy_drewN nq))))
                    have d8 := (grownBy_drewN nq (r := none)).cell d0 (by simp)
                    clear d0 z0 z1 z2 z3 z4 z5 zf0 zf1 zf2 zf3 zf4 zf5
                    generalize w7.drewN nq = w8 at *
                    have z0 := (H8.out.1.r).c 0 rfl
                    have z1 := (H8.out.1.r).c 1 rfl
                    have z2 := (H8.out.1.r).c 2 rfl
                    have z3 := (H8.out.1.r).c 3 rfl
                    have z4 := (H8.out.1.r).c 4 rfl
                    have z5 := (H8.out.1.r).c 5 rfl
                    have zf0 := (H8.out.1.r).f 0
                    have zf1 := (H8.out.1.r).f 1
                    have zf2 := (H8.out.1.r).f 2
                    have zf3 := (H8.out.1.r).f 3
                    have zf4 := (H8.out.1.r).f 4
                    have zf5 := (H8.out.1.r).f 5
                    have n0 := (H8.out.2.1).c 0 rfl
                    have n1 := (H8.out.2.1).c 1 rfl
                    have n2 := (H8.out.2.1).c 2 rfl
                    have n3 := (H8.out.2.1).c 3 rfl
                    have n4 := (H8.out.2.1).c 4 rfl
                    have n5 := (H8.out.2.1).c 5 rfl
                    have nf0 := (H8.out.2.1).f 0
                    have nf1 := (H8.out.2.1).f 1
                    have nf2 := (H8.out.2.1).f 2
                    have nf3 := (H8.out.2.1).f 3
                    have nf4 := (H8.out.2.1).f 4
                    have nf5 := (H8.out.2.1).f 5
                    go_wp2_with fail
                    refine bodyPost_ret (v := .tuple #[bbV 1 (some ⟨bq, oq, none⟩) L.length c5 r f (s + 1) t, .bool true]) ?_ rfl (bs_yes HYES.out HUX.out ?_ ?_ (show w.heap.size ≤ w.heap.size + 1 + 1 + 1 by omega))
                    · simp [results, Try.results8, go_sem, z0, z1, z2, z3, z4, z5]
                    · repeat (first | with_reducible exact H8.out.1.g | with_reducible refine gS ?_ (by omega) _ _)
                    · repeat (first | with_reducible exact H8.out.2.2 | with_reducible refine own_setB ?_ (by omega) | with_reducible refine own_setN ?_ HO5.out (Nat.le_refl _))
            · subst hm
              have HMN := Lib.hid (show mnI r r = r by unfold mnI; split <;> rfl)
              have hR2 : 1 ≤ r ∧ r ≤ 60000 := by omega
              have HUU := Lib.hid (show stepN (⟨1, l, r, f, s, t⟩ : Bb) (tx, rx) r fl = upF (addF l (tx, rx) (10 * r)) r f s t by simp [stepN, HMN.out])
              go_enter Try.func8, Try.ntmps8
              go_wp2_with fail
              generalize (((w.alloc (.cells (bbC 1 a l.length c r f s t) 26)).alloc (.cells #[.int .i64 tx, .int .i64 rx] 28)).alloc (.cells (#[.int .i64 0, .slice none 0 0, .int .i64 0, .int .i64 0, .int .i64 0, .int .i64 0]) 26)) = w3 at *
              refine (HFA.out _ _ _ HR.out).mono ?_
              rintro e w4 ⟨a5, c5, rfl, hg, ho⟩
              have H4 := Lib.hid (H3.out.keep hg)
              have HR4 := Lib.hid (HR.out.kept hg)
              have hs4 := hg.size
              have hlt3 := H3.out.r.lt
              have HO4 := Lib.hid (own_base ho (show w.heap.size + 1 + 1 + 1 ≤ w3.heap.size by omega))
              clear hg ho
              have b0 := (H4.out.b).c 0 rfl
              have b1 := (H4.out.b).c 1 rfl
              have b2 := (H4.out.b).c 2 rfl
              have b3 := (H4.out.b).c 3 rfl
              have b4 := (H4.out.b).c 4 rfl
              have b5 := (H4.out.b).c 5 rfl
              go_wp2_with fail
              refine (bb_ok_spec _ _ _ _ _ _ _ _ _ HR4.out (by omega)).mono ?_
              rintro e w5 ⟨rfl, hg⟩
              rw [HOK.out]
              have H5 := Lib.hid (H4.out.keep hg)
              have HO5 := Lib.hid (own_kept HO4.out hg)
              have hs5 := hg.size
              clear hg b0 b1 b2 b3 b4 b5
              have b0 := (H5.out.b).c 0 rfl
              have b1 := (H5.out.b).c 1 rfl
              have b2 := (H5.out.b).c 2 rfl
              have b3 := (H5.out.b).c 3 rfl
              have b4 := (H5.out.b).c 4 rfl
              have b5 := (H5.out.b).c 5 rfl
              have z0 := (H5.out.r).c 0 rfl
              have z1 := (H5.out.r).c 1 rfl
              have z2 := (H5.out.r).c 2 rfl
              have z3 := (H5.out.r).c 3 rfl
              have z4 := (H5.out.r).c 4 rfl
              have z5 := (H5.out.r).c 5 rfl
              have zf0 := (H5.out.r).f 0
              have zf1 := (H5.out.r).f 1
              have zf2 := (H5.out.r).f 2
              have zf3 := (H5.out.r).f 3
              have zf4 := (H5.out.r).f 4
              have zf5 := (H5.out.r).f 5
              have hsB : w.heap.size < w5.heap.size := H5.out.b.lt
              have hsN : w.heap.size + 1 + 1 < w5.heap.size := H5.out.r.lt
              generalize addF l (tx, rx) (10 * r) = L at *
              have hN := Bx.new w5 26 (bbC 1 a5 L.length c5 r f s t)
              have gN := World.grownBy_alloc w5 (.cells (bbC 1 a5 L.length c5 r f s t) 26) none
              have H7 := Lib.hid (And.intro (H5.out.keep gN) (And.intro hN (And.intro (own_kept HO5.out gN) (rg_own (own_kept HO5.out gN)))))
              clear hN gN
              have hbb := rate_bd L
              have he : bestF L = (L[0]'HLP.out.2).2 := bestF_yes HLP.out.1 HLP.out.2
              have he2 : rateF L = (L[0]'HLP.out.2).2 := rate_at HLP.out.1 HLP.out.2
              rw [he2] at hbb
              have hL0 : (0 : Int) < (L.length : Int) := by have := HLP.out.2; omega
              have HUX0 := Lib.hid (HUU.out)
              have HC := Lib.hid (show ∃ b off, a5 = some ⟨b, off, none⟩ ∧ (w5.alloc (.cells (bbC 1 a5 L.length c5 r f s t) 26)).cell? ⟨b, off + 1, none⟩ = some (.int .i64 (L[0]'HLP.out.2).2) by
                rcases H7.out.2.2.2 with hn | ⟨b, off, ha, hb, hc⟩
                · have := HLP.out.2; rw [hn] at this; simp at this
                · exact ⟨b, off, ha, by have := (hc 0 HLP.out.2).2; simpa using this⟩)
              have HE := Lib.hid he
              generalize (L[0]'HLP.out.2).2 = y at *
              clear he he2
              obtain ⟨hb0, hb1⟩ := hbb
              have hw1 : IntKind.i64.wrap (f.tdiv 4) = f / 4 := by rw [Int.tdiv_eq_ediv_of_nonneg hf2.1]; exact wq (by omega)
              have hw2 : IntKind.i64.wrap (f + f / 4) = f + f / 4 := wq (by omega)
              have hw3 : IntKind.i64.wrap (s + 1) = s + 1 := wq (by omega)
              have HUP := Lib.hid (show upF L r f s t = if 0 < y ∧ f + f / 4 ≤ y then ⟨1, L, r, y, 0, t⟩ else ⟨if s + 1 = 3 then 2 else 1, L, r, f, s + 1, t⟩ by rw [upF, HE.out])
              by_cases hc : 0 < y ∧ f + f / 4 ≤ y
              · have HUX := Lib.hid (show stepN (⟨1, l, r, f, s, t⟩ : Bb) (tx, rx) r fl = ⟨1, L, r, y, 0, t⟩ by rw [HUX0.out, HUP.out, if_pos hc])
                obtain ⟨hc1, hc2⟩ := hc
                have hc3 : decide (0 < y) = true := decide_eq_true hc1
                have hc4 : decide (f + f / 4 ≤ y) = true := decide_eq_true hc2
                obtain ⟨bq, oq, he9, d0⟩ := HC.out
                subst he9
                go_wp2_with (go_at_call 28; refine (in_any _ _ _ _).mono ?_; rintro e w' ⟨rfl, rfl⟩; first | rw [HQ.out] | rw [HF.out])
                generalize w5.alloc (.cells (bbC 1 (some ⟨bq, oq, none⟩) L.length c5 r f s t) 26) = w7 at *
                clear b0 b1 b2 b3 b4 b5
                have b0 := (H7.out.1.b).c 0 rfl
                have b1 := (H7.out.1.b).c 1 rfl
                have b2 := (H7.out.1.b).c 2 rfl
                have b3 := (H7.out.1.b).c 3 rfl
                have b4 := (H7.out.1.b).c 4 rfl
                have b5 := (H7.out.1.b).c 5 rfl
                go_quiet (fail)
                have H8 := Lib.hid (And.intro (H7.out.1.keep (grownBy_drewN nq)) (And.intro (H7.out.2.1.drew nq) (own_kept H7.out.2.2.1 (grownBy_drewN nq))))
                have d8 := (grownBy_drewN nq (r := none)).cell d0 (by simp)
                clear d0 z0 z1 z2 z3 z4 z5 zf0 zf1 zf2 zf3 zf4 zf5
                generalize w7.drewN nq = w8 at *
                have z0 := (H8.out.1.r).c 0 rfl
                have z1 := (H8.out.1.r).c 1 rfl
                have z2 := (H8.out.1.r).c 2 rfl
                have z3 := (H8.out.1.r).c 3 rfl
                have z4 := (H8.out.1.r).c 4 rfl
                have z5 := (H8.out.1.r).c 5 rfl
                have zf0 := (H8.out.1.r).f 0
                have zf1 := (H8.out.1.r).f 1
                have zf2 := (H8.out.1.r).f 2
                have zf3 := (H8.out.1.r).f 3
                have zf4 := (H8.out.1.r).f 4
                have zf5 := (H8.out.1.r).f 5
                have n0 := (H8.out.2.1).c 0 rfl
                have n1 := (H8.out.2.1).c 1 rfl
                have n2 := (H8.out.2.1).c 2 rfl
                have n3 := (H8.out.2.1).c 3 rfl
                have n4 := (H8.out.2.1).c 4 rfl
                have n5 := (H8.out.2.1).c 5 rfl
                have nf0 := (H8.out.2.1).f 0
                have nf1 := (H8.out.2.1).f 1
                have nf2 := (H8.out.2.1).f 2
                have nf3 := (H8.out.2.1).f 3
                have nf4 := (H8.out.2.1).f 4
                have nf5 := (H8.out.2.1).f 5
                go_wp2_with fail
                refine bodyPost_ret (v := .tuple #[bbV 1 (some ⟨bq, oq, none⟩) L.length c5 r y 0 t, .bool true]) ?_ rfl (bs_yes HYES.out HUX.out ?_ ?_ (show w.heap.size ≤ w.heap.size + 1 + 1 + 1 by omega))
                · simp [results, Try.results8, go_sem, z0, z1, z2, z3, z4, z5]
                · repeat (first | with_reducible exact H8.out.1.g | with_reducible refine gS ?_ (by omega) _ _)
                · repeat (first | with_reducible exact H8.out.2.2 | with_reducible refine own_setB ?_ (by omega) | with_reducible refine own_setN ?_ HO5.out (Nat.le_refl _))
              · by_cases hs3 : s + 1 = 3
                · have HUX := Lib.hid (show stepN (⟨1, l, r, f, s, t⟩ : Bb) (tx, rx) r fl = ⟨2, L, r, f, s + 1, t⟩ by rw [HUX0.out, HUP.out, if_neg hc, if_pos hs3])
                  have hs6 : (s + 1 == 3) = true := by simpa using hs3
                  have HS3 := Lib.hid hs3
                  clear hs3
                  by_cases hc2 : f + f / 4 ≤ y
                  · have hc1 : ¬ 0 < y := fun k => hc ⟨k, hc2⟩
                    have hc3 : decide (0 < y) = false := decide_eq_false hc1
                    have hc4 : decide (f + f / 4 ≤ y) = true := decide_eq_true hc2
                    clear hc
                    obtain ⟨bq, oq, he9, d0⟩ := HC.out
                    subst he9
                    go_wp2_with (go_at_call 28; refine (in_any _ _ _ _).mono ?_; rintro e w' ⟨rfl, rfl⟩; first | rw [HQ.out] | rw [HF.out])
                    generalize w5.alloc (.cells (bbC 1 (some ⟨bq, oq, none⟩) L.length c5 r f s t) 26) = w7 at *
                    clear b0 b1 b2 b3 b4 b5
                    have b0 := (H7.out.1.b).c 0 rfl
                    have b1 := (H7.out.1.b).c 1 rfl
                    have b2 := (H7.out.1.b).c 2 rfl
                    have b3 := (H7.out.1.b).c 3 rfl
                    have b4 := (H7.out.1.b).c 4 rfl
                    have b5 := (H7.out.1.b).c 5 rfl
                    go_quiet (fail)
                    have H8 := Lib.hid (And.intro (H7.out.1.keep (grownBy_drewN nq)) (And.intro (H7.out.2.1.drew nq) (own_kept H7.out.2.2.1 (grownBy_drewN nq))))
                    have d8 := (grownBy_drewN nq (r := none)).cell d0 (by simp)
                    clear d0 z0 z1 z2 z3 z4 z5 zf0 zf1 zf2 zf3 zf4 zf5
                    generalize w7.drewN nq = w8 at *
                    have z0 := (H8.out.1.r).c 0 rfl
                    have z1 := (H8.out.1.r).c 1 rfl
                    have z2 := (H8.out.1.r).c 2 rfl
                    have z3 := (H8.out.1.r).c 3 rfl
                    have z4 := (H8.out.1.r).c 4 rfl
                    have z5 := (H8.out.1.r).c 5 rfl
                    have zf0 := (H8.out.1.r).f 0
                    have zf1 := (H8.out.1.r).f 1
                    have zf2 := (H8.out.1.r).f 2
                    have zf3 := (H8.out.1.r).f 3
                    have zf4 := (H8.out.1.r).f 4
                    have zf5 := (H8.out.1.r).f 5
                    have n0 := (H8.out.2.1).c 0 rfl
                    have n1 := (H8.out.2.1).c 1 rfl
                    have n2 := (H8.out.2.1).c 2 rfl
                    have n3 := (H8.out.2.1).c 3 rfl
                    have n4 := (H8.out.2.1).c 4 rfl
                    have n5 := (H8.out.2.1).c 5 rfl
                    have nf0 := (H8.out.2.1).f 0
                    have nf1 := (H8.out.2.1).f 1
                    have nf2 := (H8.out.2.1).f 2
                    have nf3 := (H8.out.2.1).f 3
                    have nf4 := (H8.out.2.1).f 4
                    have nf5 := (H8.out.2.1).f 5
                    go_wp2_with fail
                    refine bodyPost_ret (v := .tuple #[bbV 2 (some ⟨bq, oq, none⟩) L.length c5 r f (s + 1) t, .bool true]) ?_ rfl (bs_yes HYES.out HUX.out ?_ ?_ (show w.heap.size ≤ w.heap.size + 1 + 1 + 1 by omega))
                    · simp [results, Try.results8, go_sem, z0, z1, z2, z3, z4, z5]
                    · repeat (first | with_reducible exact H8.out.1.g | with_reducible refine gS ?_ (by omega) _ _)
                    · repeat (first | with_reducible exact H8.out.2.2 | with_reducible refine own_setB ?_ (by omega) | with_reducible refine own_setN ?_ HO5.out (Nat.le_refl _))
                  · have hc4 : decide (f + f / 4 ≤ y) = false := decide_eq_false hc2
                    clear hc
                    obtain ⟨bq, oq, he9, d0⟩ := HC.out
                    subst he9
                    go_wp2_with (go_at_call 28; refine (in_any _ _ _ _).mono ?_; rintro e w' ⟨rfl, rfl⟩; first | rw [HQ.out] | rw [HF.out])
                    generalize w5.alloc (.cells (bbC 1 (some ⟨bq, oq, none⟩) L.length c5 r f s t) 26) = w7 at *
                    clear b0 b1 b2 b3 b4 b5
                    have b0 := (H7.out.1.b).c 0 rfl
                    have b1 := (H7.out.1.b).c 1 rfl
                    have b2 := (H7.out.1.b).c 2 rfl
                    have b3 := (H7.out.1.b).c 3 rfl
                    have b4 := (H7.out.1.b).c 4 rfl
                    have b5 := (H7.out.1.b).c 5 rfl
                    go_quiet (fail)
                    have H8 := Lib.hid (And.intro (H7.out.1.keep (grownBy_drewN nq)) (And.intro (H7.out.2.1.drew nq) (own_kept H7.out.2.2.1 (grownBy_drewN nq))))
                    have d8 := (grownBy_drewN nq (r := none)).cell d0 (by simp)
                    clear d0 z0 z1 z2 z3 z4 z5 zf0 zf1 zf2 zf3 zf4 zf5
                    generalize w7.drewN nq = w8 at *
                    have z0 := (H8.out.1.r).c 0 rfl
                    have z1 := (H8.out.1.r).c 1 rfl
                    have z2 := (H8.out.1.r).c 2 rfl
                    have z3 := (H8.out.1.r).c 3 rfl
                    have z4 := (H8.out.1.r).c 4 rfl
                    have z5 := (H8.out.1.r).c 5 rfl
                    have zf0 := (H8.out.1.r).f 0
                    have zf1 := (H8.out.1.r).f 1
                    have zf2 := (H8.out.1.r).f 2
                    have zf3 := (H8.out.1.r).f 3
                    have zf4 := (H8.out.1.r).f 4
                    have zf5 := (H8.out.1.r).f 5
                    have n0 := (H8.out.2.1).c 0 rfl
                    have n1 := (H8.out.2.1).c 1 rfl
                    have n2 := (H8.out.2.1).c 2 rfl
                    have n3 := (H8.out.2.1).c 3 rfl
                    have n4 := (H8.out.2.1).c 4 rfl
                    have n5 := (H8.out.2.1).c 5 rfl
                    have nf0 := (H8.out.2.1).f 0
                    have nf1 := (H8.out.2.1).f 1
                    have nf2 := (H8.out.2.1).f 2
                    have nf3 := (H8.out.2.1).f 3
                    have nf4 := (H8.out.2.1).f 4
                    have nf5 := (H8.out.2.1).f 5
                    go_wp2_with fail
                    refine bodyPost_ret (v := .tuple #[bbV 2 (some ⟨bq, oq, none⟩) L.length c5 r f (s + 1) t, .bool true]) ?_ rfl (bs_yes HYES.out HUX.out ?_ ?_ (show w.heap.size ≤ w.heap.size + 1 + 1 + 1 by omega))
                    · simp [results, Try.results8, go_sem, z0, z1, z2, z3, z4, z5]
                    · repeat (first | with_reducible exact H8.out.1.g | with_reducible refine gS ?_ (by omega) _ _)
                    · repeat (first | with_reducible exact H8.out.2.2 | with_reducible refine own_setB ?_ (by omega) | with_reducible refine own_setN ?_ HO5.out (Nat.le_refl _))
                · have HUX := Lib.hid (show stepN (⟨1, l, r, f, s, t⟩ : Bb) (tx, rx) r fl = ⟨1, L, r, f, s + 1, t⟩ by rw [HUX0.out, HUP.out, if_neg hc, if_neg hs3])
                  have hs6 : (s + 1 == 3) = false := beq_false_of_ne hs3
                  clear hs3
                  by_cases hc2 : f + f / 4 ≤ y
                  · have hc1 : ¬ 0 < y := fun k => hc ⟨k, hc2⟩
                    have hc3 : decide (0 < y) = false := decide_eq_false hc1
                    have hc4 : decide (f + f / 4 ≤ y) = true := decide_eq_true hc2
                    clear hc
                    obtain ⟨bq, oq, he9, d0⟩ := HC.out
                    subst he9
                    go_wp2_with (go_at_call 28; refine (in_any _ _ _ _).mono ?_; rintro e w' ⟨rfl, rfl⟩; first | rw [HQ.out] | rw [HF.out])
                    generalize w5.alloc (.cells (bbC 1 (some ⟨bq, oq, none⟩) L.length c5 r f s t) 26) = w7 at *
                    clear b0 b1 b2 b3 b4 b5
                    have b0 := (H7.out.1.b).c 0 rfl
                    have b1 := (H7.out.1.b).c 1 rfl
                    have b2 := (H7.out.1.b).c 2 rfl
                    have b3 := (H7.out.1.b).c 3 rfl
                    have b4 := (H7.out.1.b).c 4 rfl
                    have b5 := (H7.out.1.b).c 5 rfl
                    go_quiet (fail)
                    have H8 := Lib.hid (And.intro (H7.out.1.keep (grownBy_drewN nq)) (And.intro (H7.out.2.1.drew nq) (own_kept H7.out.2.2.1 (grownBy_drewN nq))))
                    have d8 := (grownBy_drewN nq (r := none)).cell d0 (by simp)
                    clear d0 z0 z1 z2 z3 z4 z5 zf0 zf1 zf2 zf3 zf4 zf5
                    generalize w7.drewN nq = w8 at *
                    have z0 := (H8.out.1.r).c 0 rfl
                    have z1 := (H8.out.1.r).c 1 rfl
                    have z2 := (H8.out.1.r).c 2 rfl
                    have z3 := (H8.out.1.r).c 3 rfl
                    have z4 := (H8.out.1.r).c 4 rfl
                    have z5 := (H8.out.1.r).c 5 rfl
                    have zf0 := (H8.out.1.r).f 0
                    have zf1 := (H8.out.1.r).f 1
                    have zf2 := (H8.out.1.r).f 2
                    have zf3 := (H8.out.1.r).f 3
                    have zf4 := (H8.out.1.r).f 4
                    have zf5 := (H8.out.1.r).f 5
                    have n0 := (H8.out.2.1).c 0 rfl
                    have n1 := (H8.out.2.1).c 1 rfl
                    have n2 := (H8.out.2.1).c 2 rfl
                    have n3 := (H8.out.2.1).c 3 rfl
                    have n4 := (H8.out.2.1).c 4 rfl
                    have n5 := (H8.out.2.1).c 5 rfl
                    have nf0 := (H8.out.2.1).f 0
                    have nf1 := (H8.out.2.1).f 1
                    have nf2 := (H8.out.2.1).f 2
                    have nf3 := (H8.out.2.1).f 3
                    have nf4 := (H8.out.2.1).f 4
                    have nf5 := (H8.out.2.1).f 5
                    go_wp2_with fail
                    refine bodyPost_ret (v := .tuple #[bbV 1 (some ⟨bq, oq, none⟩) L.length c5 r f (s + 1) t, .bool true]) ?_ rfl (bs_yes HYES.out HUX.out ?_ ?_ (show w.heap.size ≤ w.heap.size + 1 + 1 + 1 by omega))
                    · simp [results, Try.results8, go_sem, z0, z1, z2, z3, z4, z5]
                    · repeat (first | with_reducible exact H8.out.1.g | with_reducible refine gS ?_ (by omega) _ _)
                    · repeat (first | with_reducible exact H8.out.2.2 | with_reducible refine own_setB ?_ (by omega) | with_reducible refine own_setN ?_ HO5.out (Nat.le_refl _))
                  · have hc4 : decide (f + f / 4 ≤ y) = false := decide_eq_false hc2
                    clear hc
                    obtain ⟨bq, oq, he9, d0⟩ := HC.out
                    subst he9
                    go_wp2_with (go_at_call 28; refine (in_any _ _ _ _).mono ?_; rintro e w' ⟨rfl, rfl⟩; first | rw [HQ.out] | rw [HF.out])
                    generalize w5.alloc (.cells (bbC 1 (some ⟨bq, oq, none⟩) L.length c5 r f s t) 26) = w7 at *
                    clear b0 b1 b2 b3 b4 b5
                    have b0 := (H7.out.1.b).c 0 rfl
                    have b1 := (H7.out.1.b).c 1 rfl
                    have b2 := (H7.out.1.b).c 2 rfl
                    have b3 := (H7.out.1.b).c 3 rfl
                    have b4 := (H7.out.1.b).c 4 rfl
                    have b5 := (H7.out.1.b).c 5 rfl
                    go_quiet (fail)
                    have H8 := Lib.hid (And.intro (H7.out.1.keep (grownBy_drewN nq)) (And.intro (H7.out.2.1.drew nq) (own_kept H7.out.2.2.1 (grownBy_drewN nq))))
                    have d8 := (grownBy_drewN nq (r := none)).cell d0 (by simp)
                    clear d0 z0 z1 z2 z3 z4 z5 zf0 zf1 zf2 zf3 zf4 zf5
                    generalize w7.drewN nq = w8 at *
                    have z0 := (H8.out.1.r).c 0 rfl
                    have z1 := (H8.out.1.r).c 1 rfl
                    have z2 := (H8.out.1.r).c 2 rfl
                    have z3 := (H8.out.1.r).c 3 rfl
                    have z4 := (H8.out.1.r).c 4 rfl
                    have z5 := (H8.out.1.r).c 5 rfl
                    have zf0 := (H8.out.1.r).f 0
                    have zf1 := (H8.out.1.r).f 1
                    have zf2 := (H8.out.1.r).f 2
                    have zf3 := (H8.out.1.r).f 3
                    have zf4 := (H8.out.1.r).f 4
                    have zf5 := (H8.out.1.r).f 5
                    have n0 := (H8.out.2.1).c 0 rfl
                    have n1 := (H8.out.2.1).c 1 rfl
                    have n2 := (H8.out.2.1).c 2 rfl
                    have n3 := (H8.out.2.1).c 3 rfl
                    have n4 := (H8.out.2.1).c 4 rfl
                    have n5 := (H8.out.2.1).c 5 rfl
                    have nf0 := (H8.out.2.1).f 0
                    have nf1 := (H8.out.2.1).f 1
                    have nf2 := (H8.out.2.1).f 2
                    have nf3 := (H8.out.2.1).f 3
                    have nf4 := (H8.out.2.1).f 4
                    have nf5 := (H8.out.2.1).f 5
                    go_wp2_with fail
                    refine bodyPost_ret (v := .tuple #[bbV 1 (some ⟨bq, oq, none⟩) L.length c5 r f (s + 1) t, .bool true]) ?_ rfl (bs_yes HYES.out HUX.out ?_ ?_ (show w.heap.size ≤ w.heap.size + 1 + 1 + 1 by omega))
                    · simp [results, Try.results8, go_sem, z0, z1, z2, z3, z4, z5]
                    · repeat (first | with_reducible exact H8.out.1.g | with_reducible refine gS ?_ (by omega) _ _)
                    · repeat (first | with_reducible exact H8.out.2.2 | with_reducible refine own_setB ?_ (by omega) | with_reducible refine own_setN ?_ HO5.out (Nat.le_refl _))
            · have hm2 : ¬ r < q := by omega
              have hm3 : ¬ r ≤ q := by omega
              have hm5 : q ≤ r := by omega
              have hm4 : min r q = q := by omega
              have HMN := Lib.hid (show mnI r q = q from if_neg hm2)
              have hR2 : 1 ≤ q ∧ q ≤ 60000 := by omega
              have HUU := Lib.hid (show stepN (⟨1, l, r, f, s, t⟩ : Bb) (tx, rx) q fl = upF (addF l (tx, rx) (10 * r)) q f s t by simp [stepN, HMN.out])
              go_enter Try.func8, Try.ntmps8
              go_wp2_with fail
              generalize (((w.alloc (.cells (bbC 1 a l.length c r f s t) 26)).alloc (.cells #[.int .i64 tx, .int .i64 rx] 28)).alloc (.cells (#[.int .i64 0, .slice none 0 0, .int .i64 0, .int .i64 0, .int .i64 0, .int .i64 0]) 26)) = w3 at *
              refine (HFA.out _ _ _ HR.out).mono ?_
              rintro e w4 ⟨a5, c5, rfl, hg, ho⟩
              have H4 := Lib.hid (H3.out.keep hg)
              have HR4 := Lib.hid (HR.out.kept hg)
              have hs4 := hg.size
              have hlt3 := H3.out.r.lt
              have HO4 := Lib.hid (own_base ho (show w.heap.size + 1 + 1 + 1 ≤ w3.heap.size by omega))
              clear hg ho
              have b0 := (H4.out.b).c 0 rfl
              have b1 := (H4.out.b).c 1 rfl
              have b2 := (H4.out.b).c 2 rfl
              have b3 := (H4.out.b).c 3 rfl
              have b4 := (H4.out.b).c 4 rfl
              have b5 := (H4.out.b).c 5 rfl
              go_wp2_with fail
              refine (bb_ok_spec _ _ _ _ _ _ _ _ _ HR4.out (by omega)).mono ?_
              rintro e w5 ⟨rfl, hg⟩
              rw [HOK.out]
              have H5 := Lib.hid (H4.out.keep hg)
              have HO5 := Lib.hid (own_kept HO4.out hg)
              have hs5 := hg.size
              clear hg b0 b1 b2 b3 b4 b5
              have b0 := (H5.out.b).c 0 rfl
              have b1 := (H5.out.b).c 1 rfl
              have b2 := (H5.out.b).c 2 rfl
              have b3 := (H5.out.b).c 3 rfl
              have b4 := (H5.out.b).c 4 rfl
              have b5 := (H5.out.b).c 5 rfl
              have z0 := (H5.out.r).c 0 rfl
              have z1 := (H5.out.r).c 1 rfl
              have z2 := (H5.out.r).c 2 rfl
              have z3 := (H5.out.r).c 3 rfl
              have z4 := (H5.out.r).c 4 rfl
              have z5 := (H5.out.r).c 5 rfl
              have zf0 := (H5.out.r).f 0
              have zf1 := (H5.out.r).f 1
              have zf2 := (H5.out.r).f 2
              have zf3 := (H5.out.r).f 3
              have zf4 := (H5.out.r).f 4
              have zf5 := (H5.out.r).f 5
              have hsB : w.heap.size < w5.heap.size := H5.out.b.lt
              have hsN : w.heap.size + 1 + 1 < w5.heap.size := H5.out.r.lt
              generalize addF l (tx, rx) (10 * r) = L at *
              have hN := Bx.new w5 26 (bbC 1 a5 L.length c5 q f s t)
              have gN := World.grownBy_alloc w5 (.cells (bbC 1 a5 L.length c5 q f s t) 26) none
              have H7 := Lib.hid (And.intro (H5.out.keep gN) (And.intro hN (And.intro (own_kept HO5.out gN) (rg_own (own_kept HO5.out gN)))))
              clear hN gN
              have hbb := rate_bd L
              have he : bestF L = (L[0]'HLP.out.2).2 := bestF_yes HLP.out.1 HLP.out.2
              have he2 : rateF L = (L[0]'HLP.out.2).2 := rate_at HLP.out.1 HLP.out.2
              rw [he2] at hbb
              have hL0 : (0 : Int) < (L.length : Int) := by have := HLP.out.2; omega
              have HUX0 := Lib.hid (HUU.out)
              have HC := Lib.hid (show ∃ b off, a5 = some ⟨b, off, none⟩ ∧ (w5.alloc (.cells (bbC 1 a5 L.length c5 q f s t) 26)).cell? ⟨b, off + 1, none⟩ = some (.int .i64 (L[0]'HLP.out.2).2) by
                rcases H7.out.2.2.2 with hn | ⟨b, off, ha, hb, hc⟩
                · have := HLP.out.2; rw [hn] at this; simp at this
                · exact ⟨b, off, ha, by have := (hc 0 HLP.out.2).2; simpa using this⟩)
              have HE := Lib.hid he
              generalize (L[0]'HLP.out.2).2 = y at *
              clear he he2
              obtain ⟨hb0, hb1⟩ := hbb
              have hw1 : IntKind.i64.wrap (f.tdiv 4) = f / 4 := by rw [Int.tdiv_eq_ediv_of_nonneg hf2.1]; exact wq (by omega)
              have hw2 : IntKind.i64.wrap (f + f / 4) = f + f / 4 := wq (by omega)
              have hw3 : IntKind.i64.wrap (s + 1) = s + 1 := wq (by omega)
              have HUP := Lib.hid (show upF L q f s t = if 0 < y ∧ f + f / 4 ≤ y then ⟨1, L, q, y, 0, t⟩ else ⟨if s + 1 = 3 then 2 else 1, L, q, f, s + 1, t⟩ by rw [upF, HE.out])
              by_cases hc : 0 < y ∧ f + f / 4 ≤ y
              · have HUX := Lib.hid (show stepN (⟨1, l, r, f, s, t⟩ : Bb) (tx, rx) q fl = ⟨1, L, q, y, 0, t⟩ by rw [HUX0.out, HUP.out, if_pos hc])
                obtain ⟨hc1, hc2⟩ := hc
                have hc3 : decide (0 < y) = true := decide_eq_true hc1
                have hc4 : decide (f + f / 4 ≤ y) = true := decide_eq_true hc2
                obtain ⟨bq, oq, he9, d0⟩ := HC.out
                subst he9
                go_wp2_with (go_at_call 28; refine (in_any _ _ _ _).mono ?_; rintro e w' ⟨rfl, rfl⟩; first | rw [HQ.out] | rw [HF.out])
                generalize w5.alloc (.cells (bbC 1 (some ⟨bq, oq, none⟩) L.length c5 q f s t) 26) = w7 at *
                clear b0 b1 b2 b3 b4 b5
                have b0 := (H7.out.1.b).c 0 rfl
                have b1 := (H7.out.1.b).c 1 rfl
                have b2 := (H7.out.1.b).c 2 rfl
                have b3 := (H7.out.1.b).c 3 rfl
                have b4 := (H7.out.1.b).c 4 rfl
                have b5 := (H7.out.1.b).c 5 rfl
                go_quiet (fail)
                have H8 := Lib.hid (And.intro (H7.out.1.keep (grownBy_drewN nq)) (And.intro (H7.out.2.1.drew nq) (own_kept H7.out.2.2.1 (grownBy_drewN nq))))
                have d8 := (grownBy_drewN nq (r := none)).cell d0 (by simp)
                clear d0 z0 z1 z2 z3 z4 z5 zf0 zf1 zf2 zf3 zf4 zf5
                generalize w7.drewN nq = w8 at *
                have z0 := (H8.out.1.r).c 0 rfl
                have z1 := (H8.out.1.r).c 1 rfl
                have z2 := (H8.out.1.r).c 2 rfl
                have z3 := (H8.out.1.r).c 3 rfl
                have z4 := (H8.out.1.r).c 4 rfl
                have z5 := (H8.out.1.r).c 5 rfl
                have zf0 := (H8.out.1.r).f 0
                have zf1 := (H8.out.1.r).f 1
                have zf2 := (H8.out.1.r).f 2
                have zf3 := (H8.out.1.r).f 3
                have zf4 := (H8.out.1.r).f 4
                have zf5 := (H8.out.1.r).f 5
                have n0 := (H8.out.2.1).c 0 rfl
                have n1 := (H8.out.2.1).c 1 rfl
                have n2 := (H8.out.2.1).c 2 rfl
                have n3 := (H8.out.2.1).c 3 rfl
                have n4 := (H8.out.2.1).c 4 rfl
                have n5 := (H8.out.2.1).c 5 rfl
                have nf0 := (H8.out.2.1).f 0
                have nf1 := (H8.out.2.1).f 1
                have nf2 := (H8.out.2.1).f 2
                have nf3 := (H8.out.2.1).f 3
                have nf4 := (H8.out.2.1).f 4
                have nf5 := (H8.out.2.1).f 5
                go_wp2_with fail
                refine bodyPost_ret (v := .tuple #[bbV 1 (some ⟨bq, oq, none⟩) L.length c5 q y 0 t, .bool true]) ?_ rfl (bs_yes HYES.out HUX.out ?_ ?_ (show w.heap.size ≤ w.heap.size + 1 + 1 + 1 by omega))
                · simp [results, Try.results8, go_sem, z0, z1, z2, z3, z4, z5]
                · repeat (first | with_reducible exact H8.out.1.g | with_reducible refine gS ?_ (by omega) _ _)
                · repeat (first | with_reducible exact H8.out.2.2 | with_reducible refine own_setB ?_ (by omega) | with_reducible refine own_setN ?_ HO5.out (Nat.le_refl _))
              · by_cases hs3 : s + 1 = 3
                · have HUX := Lib.hid (show stepN (⟨1, l, r, f, s, t⟩ : Bb) (tx, rx) q fl = ⟨2, L, q, f, s + 1, t⟩ by rw [HUX0.out, HUP.out, if_neg hc, if_pos hs3])
                  have hs6 : (s + 1 == 3) = true := by simpa using hs3
                  have HS3 := Lib.hid hs3
                  clear hs3
                  by_cases hc2 : f + f / 4 ≤ y
                  · have hc1 : ¬ 0 < y := fun k => hc ⟨k, hc2⟩
                    have hc3 : decide (0 < y) = false := decide_eq_false hc1
                    have hc4 : decide (f + f / 4 ≤ y) = true := decide_eq_true hc2
                    clear hc
                    obtain ⟨bq, oq, he9, d0⟩ := HC.out
                    subst he9
                    go_wp2_with (go_at_call 28; refine (in_any _ _ _ _).mono ?_; rintro e w' ⟨rfl, rfl⟩; first | rw [HQ.out] | rw [HF.out])
                    generalize w5.alloc (.cells (bbC 1 (some ⟨bq, oq, none⟩) L.length c5 q f s t) 26) = w7 at *
                    clear b0 b1 b2 b3 b4 b5
                    have b0 := (H7.out.1.b).c 0 rfl
                    have b1 := (H7.out.1.b).c 1 rfl
                    have b2 := (H7.out.1.b).c 2 rfl
                    have b3 := (H7.out.1.b).c 3 rfl
                    have b4 := (H7.out.1.b).c 4 rfl
                    have b5 := (H7.out.1.b).c 5 rfl
                    go_quiet (fail)
                    have H8 := Lib.hid (And.intro (H7.out.1.keep (grownBy_drewN nq)) (And.intro (H7.out.2.1.drew nq) (own_kept H7.out.2.2.1 (grownBy_drewN nq))))
                    have d8 := (grownBy_drewN nq (r := none)).cell d0 (by simp)
                    clear d0 z0 z1 z2 z3 z4 z5 zf0 zf1 zf2 zf3 zf4 zf5
                    generalize w7.drewN nq = w8 at *
                    have z0 := (H8.out.1.r).c 0 rfl
                    have z1 := (H8.out.1.r).c 1 rfl
                    have z2 := (H8.out.1.r).c 2 rfl
                    have z3 := (H8.out.1.r).c 3 rfl
                    have z4 := (H8.out.1.r).c 4 rfl
                    have z5 := (H8.out.1.r).c 5 rfl
                    have zf0 := (H8.out.1.r).f 0
                    have zf1 := (H8.out.1.r).f 1
                    have zf2 := (H8.out.1.r).f 2
                    have zf3 := (H8.out.1.r).f 3
                    have zf4 := (H8.out.1.r).f 4
                    have zf5 := (H8.out.1.r).f 5
                    have n0 := (H8.out.2.1).c 0 rfl
                    have n1 := (H8.out.2.1).c 1 rfl
                    have n2 := (H8.out.2.1).c 2 rfl
                    have n3 := (H8.out.2.1).c 3 rfl
                    have n4 := (H8.out.2.1).c 4 rfl
                    have n5 := (H8.out.2.1).c 5 rfl
                    have nf0 := (H8.out.2.1).f 0
                    have nf1 := (H8.out.2.1).f 1
                    have nf2 := (H8.out.2.1).f 2
                    have nf3 := (H8.out.2.1).f 3
                    have nf4 := (H8.out.2.1).f 4
                    have nf5 := (H8.out.2.1).f 5
                    go_wp2_with fail
                    refine bodyPost_ret (v := .tuple #[bbV 2 (some ⟨bq, oq, none⟩) L.length c5 q f (s + 1) t, .bool true]) ?_ rfl (bs_yes HYES.out HUX.out ?_ ?_ (show w.heap.size ≤ w.heap.size + 1 + 1 + 1 by omega))
                    · simp [results, Try.results8, go_sem, z0, z1, z2, z3, z4, z5]
                    · repeat (first | with_reducible exact H8.out.1.g | with_reducible refine gS ?_ (by omega) _ _)
                    · repeat (first | with_reducible exact H8.out.2.2 | with_reducible refine own_setB ?_ (by omega) | with_reducible refine own_setN ?_ HO5.out (Nat.le_refl _))
                  · have hc4 : decide (f + f / 4 ≤ y) = false := decide_eq_false hc2
                    clear hc
                    obtain ⟨bq, oq, he9, d0⟩ := HC.out
                    subst he9
                    go_wp2_with (go_at_call 28; refine (in_any _ _ _ _).mono ?_; rintro e w' ⟨rfl, rfl⟩; first | rw [HQ.out] | rw [HF.out])
                    generalize w5.alloc (.cells (bbC 1 (some ⟨bq, oq, none⟩) L.length c5 q f s t) 26) = w7 at *
                    clear b0 b1 b2 b3 b4 b5
                    have b0 := (H7.out.1.b).c 0 rfl
                    have b1 := (H7.out.1.b).c 1 rfl
                    have b2 := (H7.out.1.b).c 2 rfl
                    have b3 := (H7.out.1.b).c 3 rfl
                    have b4 := (H7.out.1.b).c 4 rfl
                    have b5 := (H7.out.1.b).c 5 rfl
                    go_quiet (fail)
                    have H8 := Lib.hid (And.intro (H7.out.1.keep (grownBy_drewN nq)) (And.intro (H7.out.2.1.drew nq) (own_kept H7.out.2.2.1 (grownBy_drewN nq))))
                    have d8 := (grownBy_drewN nq (r := none)).cell d0 (by simp)
                    clear d0 z0 z1 z2 z3 z4 z5 zf0 zf1 zf2 zf3 zf4 zf5
                    generalize w7.drewN nq = w8 at *
                    have z0 := (H8.out.1.r).c 0 rfl
                    have z1 := (H8.out.1.r).c 1 rfl
                    have z2 := (H8.out.1.r).c 2 rfl
                    have z3 := (H8.out.1.r).c 3 rfl
                    have z4 := (H8.out.1.r).c 4 rfl
                    have z5 := (H8.out.1.r).c 5 rfl
                    have zf0 := (H8.out.1.r).f 0
                    have zf1 := (H8.out.1.r).f 1
                    have zf2 := (H8.out.1.r).f 2
                    have zf3 := (H8.out.1.r).f 3
                    have zf4 := (H8.out.1.r).f 4
                    have zf5 := (H8.out.1.r).f 5
                    have n0 := (H8.out.2.1).c 0 rfl
                    have n1 := (H8.out.2.1).c 1 rfl
                    have n2 := (H8.out.2.1).c 2 rfl
                    have n3 := (H8.out.2.1).c 3 rfl
                    have n4 := (H8.out.2.1).c 4 rfl
                    have n5 := (H8.out.2.1).c 5 rfl
                    have nf0 := (H8.out.2.1).f 0
                    have nf1 := (H8.out.2.1).f 1
                    have nf2 := (H8.out.2.1).f 2
                    have nf3 := (H8.out.2.1).f 3
                    have nf4 := (H8.out.2.1).f 4
                    have nf5 := (H8.out.2.1).f 5
                    go_wp2_with fail
                    refine bodyPost_ret (v := .tuple #[bbV 2 (some ⟨bq, oq, none⟩) L.length c5 q f (s + 1) t, .bool true]) ?_ rfl (bs_yes HYES.out HUX.out ?_ ?_ (show w.heap.size ≤ w.heap.size + 1 + 1 + 1 by omega))
                    · simp [results, Try.results8, go_sem, z0, z1, z2, z3, z4, z5]
                    · repeat (first | with_reducible exact H8.out.1.g | with_reducible refine gS ?_ (by omega) _ _)
                    · repeat (first | with_reducible exact H8.out.2.2 | with_reducible refine own_setB ?_ (by omega) | with_reducible refine own_setN ?_ HO5.out (Nat.le_refl _))
                · have HUX := Lib.hid (show stepN (⟨1, l, r, f, s, t⟩ : Bb) (tx, rx) q fl = ⟨1, L, q, f, s + 1, t⟩ by rw [HUX0.out, HUP.out, if_neg hc, if_neg hs3])
                  have hs6 : (s + 1 == 3) = false := beq_false_of_ne hs3
                  clear hs3
                  by_cases hc2 : f + f / 4 ≤ y
                  · have hc1 : ¬ 0 < y := fun k => hc ⟨k, hc2⟩
                    have hc3 : decide (0 < y) = false := decide_eq_false hc1
                    have hc4 : decide (f + f / 4 ≤ y) = true := decide_eq_true hc2
                    clear hc
                    obtain ⟨bq, oq, he9, d0⟩ := HC.out
                    subst he9
                    go_wp2_with (go_at_call 28; refine (in_any _ _ _ _).mono ?_; rintro e w' ⟨rfl, rfl⟩; first | rw [HQ.out] | rw [HF.out])
                    generalize w5.alloc (.cells (bbC 1 (some ⟨bq, oq, none⟩) L.length c5 q f s t) 26) = w7 at *
                    clear b0 b1 b2 b3 b4 b5
                    have b0 := (H7.out.1.b).c 0 rfl
                    have b1 := (H7.out.1.b).c 1 rfl
                    have b2 := (H7.out.1.b).c 2 rfl
                    have b3 := (H7.out.1.b).c 3 rfl
                    have b4 := (H7.out.1.b).c 4 rfl
                    have b5 := (H7.out.1.b).c 5 rfl
                    go_quiet (fail)
                    have H8 := Lib.hid (And.intro (H7.out.1.keep (grownBy_drewN nq)) (And.intro (H7.out.2.1.drew nq) (own_kept H7.out.2.2.1 (grownBy_drewN nq))))
                    have d8 := (grownBy_drewN nq (r := none)).cell d0 (by simp)
                    clear d0 z0 z1 z2 z3 z4 z5 zf0 zf1 zf2 zf3 zf4 zf5
                    generalize w7.drewN nq = w8 at *
                    have z0 := (H8.out.1.r).c 0 rfl
                    have z1 := (H8.out.1.r).c 1 rfl
                    have z2 := (H8.out.1.r).c 2 rfl
                    have z3 := (H8.out.1.r).c 3 rfl
                    have z4 := (H8.out.1.r).c 4 rfl
                    have z5 := (H8.out.1.r).c 5 rfl
                    have zf0 := (H8.out.1.r).f 0
                    have zf1 := (H8.out.1.r).f 1
                    have zf2 := (H8.out.1.r).f 2
                    have zf3 := (H8.out.1.r).f 3
                    have zf4 := (H8.out.1.r).f 4
                    have zf5 := (H8.out.1.r).f 5
                    have n0 := (H8.out.2.1).c 0 rfl
                    have n1 := (H8.out.2.1).c 1 rfl
                    have n2 := (H8.out.2.1).c 2 rfl
                    have n3 := (H8.out.2.1).c 3 rfl
                    have n4 := (H8.out.2.1).c 4 rfl
                    have n5 := (H8.out.2.1).c 5 rfl
                    have nf0 := (H8.out.2.1).f 0
                    have nf1 := (H8.out.2.1).f 1
                    have nf2 := (H8.out.2.1).f 2
                    have nf3 := (H8.out.2.1).f 3
                    have nf4 := (H8.out.2.1).f 4
                    have nf5 := (H8.out.2.1).f 5
                    go_wp2_with fail
                    refine bodyPost_ret (v := .tuple #[bbV 1 (some ⟨bq, oq, none⟩) L.length c5 q f (s + 1) t, .bool true]) ?_ rfl (bs_yes HYES.out HUX.out ?_ ?_ (show w.heap.size ≤ w.heap.size + 1 + 1 + 1 by omega))
                    · simp [results, Try.results8, go_sem, z0, z1, z2, z3, z4, z5]
                    · repeat (first | with_reducible exact H8.out.1.g | with_reducible refine gS ?_ (by omega) _ _)
                    · repeat (first | with_reducible exact H8.out.2.2 | with_reducible refine own_setB ?_ (by omega) | with_reducible refine own_setN ?_ HO5.out (Nat.le_refl _))
                  · have hc4 : decide (f + f / 4 ≤ y) = false := decide_eq_false hc2
                    clear hc
                    obtain ⟨bq, oq, he9, d0⟩ := HC.out
                    subst he9
                    go_wp2_with (go_at_call 28; refine (in_any _ _ _ _).mono ?_; rintro e w' ⟨rfl, rfl⟩; first | rw [HQ.out] | rw [HF.out])
                    generalize w5.alloc (.cells (bbC 1 (some ⟨bq, oq, none⟩) L.length c5 q f s t) 26) = w7 at *
                    clear b0 b1 b2 b3 b4 b5
                    have b0 := (H7.out.1.b).c 0 rfl
                    have b1 := (H7.out.1.b).c 1 rfl
                    have b2 := (H7.out.1.b).c 2 rfl
                    have b3 := (H7.out.1.b).c 3 rfl
                    have b4 := (H7.out.1.b).c 4 rfl
                    have b5 := (H7.out.1.b).c 5 rfl
                    go_quiet (fail)
                    have H8 := Lib.hid (And.intro (H7.out.1.keep (grownBy_drewN nq)) (And.intro (H7.out.2.1.drew nq) (own_kept H7.out.2.2.1 (grownBy_drewN nq))))
                    have d8 := (grownBy_drewN nq (r := none)).cell d0 (by simp)
                    clear d0 z0 z1 z2 z3 z4 z5 zf0 zf1 zf2 zf3 zf4 zf5
                    generalize w7.drewN nq = w8 at *
                    have z0 := (H8.out.1.r).c 0 rfl
                    have z1 := (H8.out.1.r).c 1 rfl
                    have z2 := (H8.out.1.r).c 2 rfl
                    have z3 := (H8.out.1.r).c 3 rfl
                    have z4 := (H8.out.1.r).c 4 rfl
                    have z5 := (H8.out.1.r).c 5 rfl
                    have zf0 := (H8.out.1.r).f 0
                    have zf1 := (H8.out.1.r).f 1
                    have zf2 := (H8.out.1.r).f 2
                    have zf3 := (H8.out.1.r).f 3
                    have zf4 := (H8.out.1.r).f 4
                    have zf5 := (H8.out.1.r).f 5
                    have n0 := (H8.out.2.1).c 0 rfl
                    have n1 := (H8.out.2.1).c 1 rfl
                    have n2 := (H8.out.2.1).c 2 rfl
                    have n3 := (H8.out.2.1).c 3 rfl
                    have n4 := (H8.out.2.1).c 4 rfl
                    have n5 := (H8.out.2.1).c 5 rfl
                    have nf0 := (H8.out.2.1).f 0
                    have nf1 := (H8.out.2.1).f 1
                    have nf2 := (H8.out.2.1).f 2
                    have nf3 := (H8.out.2.1).f 3
                    have nf4 := (H8.out.2.1).f 4
                    have nf5 := (H8.out.2.1).f 5
                    go_wp2_with fail
                    refine bodyPost_ret (v := .tuple #[bbV 1 (some ⟨bq, oq, none⟩) L.length c5 q f (s + 1) t, .bool true]) ?_ rfl (bs_yes HYES.out HUX.out ?_ ?_ (show w.heap.size ≤ w.heap.size + 1 + 1 + 1 by omega))
                    · simp [results, Try.results8, go_sem, z0, z1, z2, z3, z4, z5]
                    · repeat (first | with_reducible exact H8.out.1.g | with_reducible refine gS ?_ (by omega) _ _)
                    · repeat (first | with_reducible exact H8.out.2.2 | with_reducible refine own_setB ?_ (by omega) | with_reducible refine own_setN ?_ HO5.out (Nat.le_refl _))
          · clear hs1 hl1 ht1
            have hmm : r < q ∨ r = q ∨ q < r := by omega
            rcases hmm with hm | hm | hm
            · have hm2 : ¬ q < r := by omega
              have hm3 : ¬ q ≤ r := by omega
              have hm5 : r ≤ q := by omega
              have hm4 : min r q = r := by omega
              have HMN := Lib.hid (show mnI r q = r from if_pos hm)
              have hR2 : 1 ≤ r ∧ r ≤ 60000 := by omega
              have HUU := Lib.hid (show stepN (⟨2, l, r, f, s, t⟩ : Bb) (tx, rx) q fl = drF (addF l (tx, rx) (10 * r)) r f s t fl by simp [stepN, HMN.out])
              go_enter Try.func8, Try.ntmps8
              go_wp2_with fail
              generalize (((w.alloc (.cells (bbC 2 a l.length c r f s t) 26)).alloc (.cells #[.int .i64 tx, .int .i64 rx] 28)).alloc (.cells (#[.int .i64 0, .slice none 0 0, .int .i64 0, .int .i64 0, .int .i64 0, .int .i64 0]) 26)) = w3 at *
              refine (HFA.out _ _ _ HR.out).mono ?_
              rintro e w4 ⟨a5, c5, rfl, hg, ho⟩
              have H4 := Lib.hid (H3.out.keep hg)
              have HR4 := Lib.hid (HR.out.kept hg)
              have hs4 := hg.size
              have hlt3 := H3.out.r.lt
              have HO4 := Lib.hid (own_base ho (show w.heap.size + 1 + 1 + 1 ≤ w3.heap.size by omega))
              clear hg ho
              have b0 := (H4.out.b).c 0 rfl
              have b1 := (H4.out.b).c 1 rfl
              have b2 := (H4.out.b).c 2 rfl
              have b3 := (H4.out.b).c 3 rfl
              have b4 := (H4.out.b).c 4 rfl
              have b5 := (H4.out.b).c 5 rfl
              go_wp2_with fail
              refine (bb_ok_spec _ _ _ _ _ _ _ _ _ HR4.out (by omega)).mono ?_
              rintro e w5 ⟨rfl, hg⟩
              rw [HOK.out]
              have H5 := Lib.hid (H4.out.keep hg)
              have HO5 := Lib.hid (own_kept HO4.out hg)
              have hs5 := hg.size
              clear hg b0 b1 b2 b3 b4 b5
              have b0 := (H5.out.b).c 0 rfl
              have b1 := (H5.out.b).c 1 rfl
              have b2 := (H5.out.b).c 2 rfl
              have b3 := (H5.out.b).c 3 rfl
              have b4 := (H5.out.b).c 4 rfl
              have b5 := (H5.out.b).c 5 rfl
              have z0 := (H5.out.r).c 0 rfl
              have z1 := (H5.out.r).c 1 rfl
              have z2 := (H5.out.r).c 2 rfl
              have z3 := (H5.out.r).c 3 rfl
              have z4 := (H5.out.r).c 4 rfl
              have z5 := (H5.out.r).c 5 rfl
              have zf0 := (H5.out.r).f 0
              have zf1 := (H5.out.r).f 1
              have zf2 := (H5.out.r).f 2
              have zf3 := (H5.out.r).f 3
              have zf4 := (H5.out.r).f 4
              have zf5 := (H5.out.r).f 5
              have hsB : w.heap.size < w5.heap.size := H5.out.b.lt
              have hsN : w.heap.size + 1 + 1 < w5.heap.size := H5.out.r.lt
              generalize addF l (tx, rx) (10 * r) = L at *
              have hN := Bx.new w5 26 (bbC 2 a5 L.length c5 r f s t)
              have gN := World.grownBy_alloc w5 (.cells (bbC 2 a5 L.length c5 r f s t) 26) none
              have H7 := Lib.hid (And.intro (H5.out.keep gN) (And.intro hN (And.intro (own_kept HO5.out gN) (rg_own (own_kept HO5.out gN)))))
              clear hN gN
              by_cases hc : fl ≤ pipeF L r
              · have HUX := Lib.hid (show stepN (⟨2, l, r, f, s, t⟩ : Bb) (tx, rx) q fl = ⟨3, L, r, f, s, t⟩ by rw [HUU.out, drF, if_pos hc])
                go_wp2_with (go_at_call 28; refine (in_any _ _ _ _).mono ?_; rintro e w' ⟨rfl, rfl⟩; first | rw [HQ.out] | rw [HF.out])
                generalize w5.alloc (.cells (bbC 2 a5 L.length c5 r f s t) 26) = w7 at *
                refine (pipe_spec _ _ _ _ _ _ _ _ _ H7.out.2.2.2 HLP.out.1 hR2).mono ?_
                rintro e w8 ⟨rfl, hg⟩
                have H8 := Lib.hid (And.intro (H7.out.1.keep hg) (And.intro (H7.out.2.1.keep hg) (own_kept H7.out.2.2.1 hg)))
                clear hg b0 b1 b2 b3 b4 b5 z0 z1 z2 z3 z4 z5 zf0 zf1 zf2 zf3 zf4 zf5
                have z0 := (H8.out.1.r).c 0 rfl
                have z1 := (H8.out.1.r).c 1 rfl
                have z2 := (H8.out.1.r).c 2 rfl
                have z3 := (H8.out.1.r).c 3 rfl
                have z4 := (H8.out.1.r).c 4 rfl
                have z5 := (H8.out.1.r).c 5 rfl
                have zf0 := (H8.out.1.r).f 0
                have zf1 := (H8.out.1.r).f 1
                have zf2 := (H8.out.1.r).f 2
                have zf3 := (H8.out.1.r).f 3
                have zf4 := (H8.out.1.r).f 4
                have zf5 := (H8.out.1.r).f 5
                have n0 := (H8.out.2.1).c 0 rfl
                have n1 := (H8.out.2.1).c 1 rfl
                have n2 := (H8.out.2.1).c 2 rfl
                have n3 := (H8.out.2.1).c 3 rfl
                have n4 := (H8.out.2.1).c 4 rfl
                have n5 := (H8.out.2.1).c 5 rfl
                have nf0 := (H8.out.2.1).f 0
                have nf1 := (H8.out.2.1).f 1
                have nf2 := (H8.out.2.1).f 2
                have nf3 := (H8.out.2.1).f 3
                have nf4 := (H8.out.2.1).f 4
                have nf5 := (H8.out.2.1).f 5
                generalize pipeF L r = Y at *
                go_wp2_with fail
                refine bodyPost_ret (v := .tuple #[bbV 3 a5 L.length c5 r f s t, .bool true]) ?_ rfl (bs_yes HYES.out HUX.out ?_ ?_ (show w.heap.size ≤ w.heap.size + 1 + 1 + 1 by omega))
                · simp [results, Try.results8, go_sem, z0, z1, z2, z3, z4, z5]
                · repeat (first | with_reducible exact H8.out.1.g | with_reducible refine gS ?_ (by omega) _ _)
                · repeat (first | with_reducible exact H8.out.2.2 | with_reducible refine own_setB ?_ (by omega) | with_reducible refine own_setN ?_ HO5.out (Nat.le_refl _))
              · have HUX := Lib.hid (show stepN (⟨2, l, r, f, s, t⟩ : Bb) (tx, rx) q fl = ⟨2, L, r, f, s, t⟩ by rw [HUU.out, drF, if_neg hc])
                go_wp2_with (go_at_call 28; refine (in_any _ _ _ _).mono ?_; rintro e w' ⟨rfl, rfl⟩; first | rw [HQ.out] | rw [HF.out])
                generalize w5.alloc (.cells (bbC 2 a5 L.length c5 r f s t) 26) = w7 at *
                refine (pipe_spec _ _ _ _ _ _ _ _ _ H7.out.2.2.2 HLP.out.1 hR2).mono ?_
                rintro e w8 ⟨rfl, hg⟩
                have H8 := Lib.hid (And.intro (H7.out.1.keep hg) (And.intro (H7.out.2.1.keep hg) (own_kept H7.out.2.2.1 hg)))
                clear hg b0 b1 b2 b3 b4 b5 z0 z1 z2 z3 z4 z5 zf0 zf1 zf2 zf3 zf4 zf5
                have z0 := (H8.out.1.r).c 0 rfl
                have z1 := (H8.out.1.r).c 1 rfl
                have z2 := (H8.out.1.r).c 2 rfl
                have z3 := (H8.out.1.r).c 3 rfl
                have z4 := (H8.out.1.r).c 4 rfl
                have z5 := (H8.out.1.r).c 5 rfl
                have zf0 := (H8.out.1.r).f 0
                have zf1 := (H8.out.1.r).f 1
                have zf2 := (H8.out.1.r).f 2
                have zf3 := (H8.out.1.r).f 3
                have zf4 := (H8.out.1.r).f 4
                have zf5 := (H8.out.1.r).f 5
                have n0 := (H8.out.2.1).c 0 rfl
                have n1 := (H8.out.2.1).c 1 rfl
                have n2 := (H8.out.2.1).c 2 rfl
                have n3 := (H8.out.2.1).c 3 rfl
                have n4 := (H8.out.2.1).c 4 rfl
                have n5 := (H8.out.2.1).c 5 rfl
                have nf0 := (H8.out.2.1).f 0
                have nf1 := (H8.out.2.1).f 1
                have nf2 := (H8.out.2.1).f 2
                have nf3 := (H8.out.2.1).f 3
                have nf4 := (H8.out.2.1).f 4
                have nf5 := (H8.out.2.1).f 5
                generalize pipeF L r = Y at *
                go_wp2_with fail
                refine bodyPost_ret (v := .tuple #[bbV 2 a5 L.length c5 r f s t, .bool true]) ?_ rfl (bs_yes HYES.out HUX.out ?_ ?_ (show w.heap.size ≤ w.heap.size + 1 + 1 + 1 by omega))
                · simp [results, Try.results8, go_sem, z0, z1, z2, z3, z4, z5]
                · repeat (first | with_reducible exact H8.out.1.g | with_reducible refine gS ?_ (by omega) _ _)
                · repeat (first | with_reducible exact H8.out.2.2 | with_reducible refine own_setB ?_ (by omega) | with_reducible refine own_setN ?_ HO5.out (Nat.le_refl _))
            · subst hm
              have HMN := Lib.hid (show mnI r r = r by unfold mnI; split <;> rfl)
              have hR2 : 1 ≤ r ∧ r ≤ 60000 := by omega
              have HUU := Lib.hid (show stepN (⟨2, l, r, f, s, t⟩ : Bb) (tx, rx) r fl = drF (addF l (tx, rx) (10 * r)) r f s t fl by simp [stepN, HMN.out])
              go_enter Try.func8, Try.ntmps8
              go_wp2_with fail
              generalize (((w.alloc (.cells (bbC 2 a l.length c r f s t) 26)).alloc (.cells #[.int .i64 tx, .int .i64 rx] 28)).alloc (.cells (#[.int .i64 0, .slice none 0 0, .int .i64 0, .int .i64 0, .int .i64 0, .int .i64 0]) 26)) = w3 at *
              refine (HFA.out _ _ _ HR.out).mono ?_
              rintro e w4 ⟨a5, c5, rfl, hg, ho⟩
              have H4 := Lib.hid (H3.out.keep hg)
              have HR4 := Lib.hid (HR.out.kept hg)
              have hs4 := hg.size
              have hlt3 := H3.out.r.lt
              have HO4 := Lib.hid (own_base ho (show w.heap.size + 1 + 1 + 1 ≤ w3.heap.size by omega))
              clear hg ho
              have b0 := (H4.out.b).c 0 rfl
              have b1 := (H4.out.b).c 1 rfl
              have b2 := (H4.out.b).c 2 rfl
              have b3 := (H4.out.b).c 3 rfl
              have b4 := (H4.out.b).c 4 rfl
              have b5 := (H4.out.b).c 5 rfl
              go_wp2_with fail
              refine (bb_ok_spec _ _ _ _ _ _ _ _ _ HR4.out (by omega)).mono ?_
              rintro e w5 ⟨rfl, hg⟩
              rw [HOK.out]
              have H5 := Lib.hid (H4.out.keep hg)
              have HO5 := Lib.hid (own_kept HO4.out hg)
              have hs5 := hg.size
              clear hg b0 b1 b2 b3 b4 b5
              have b0 := (H5.out.b).c 0 rfl
              have b1 := (H5.out.b).c 1 rfl
              have b2 := (H5.out.b).c 2 rfl
              have b3 := (H5.out.b).c 3 rfl
              have b4 := (H5.out.b).c 4 rfl
              have b5 := (H5.out.b).c 5 rfl
              have z0 := (H5.out.r).c 0 rfl
              have z1 := (H5.out.r).c 1 rfl
              have z2 := (H5.out.r).c 2 rfl
              have z3 := (H5.out.r).c 3 rfl
              have z4 := (H5.out.r).c 4 rfl
              have z5 := (H5.out.r).c 5 rfl
              have zf0 := (H5.out.r).f 0
              have zf1 := (H5.out.r).f 1
              have zf2 := (H5.out.r).f 2
              have zf3 := (H5.out.r).f 3
              have zf4 := (H5.out.r).f 4
              have zf5 := (H5.out.r).f 5
              have hsB : w.heap.size < w5.heap.size := H5.out.b.lt
              have hsN : w.heap.size + 1 + 1 < w5.heap.size := H5.out.r.lt
              generalize addF l (tx, rx) (10 * r) = L at *
              have hN := Bx.new w5 26 (bbC 2 a5 L.length c5 r f s t)
              have gN := World.grownBy_alloc w5 (.cells (bbC 2 a5 L.length c5 r f s t) 26) none
              have H7 := Lib.hid (And.intro (H5.out.keep gN) (And.intro hN (And.intro (own_kept HO5.out gN) (rg_own (own_kept HO5.out gN)))))
              clear hN gN
              by_cases hc : fl ≤ pipeF L r
              · have HUX := Lib.hid (show stepN (⟨2, l, r, f, s, t⟩ : Bb) (tx, rx) r fl = ⟨3, L, r, f, s, t⟩ by rw [HUU.out, drF, if_pos hc])
                go_wp2_with (go_at_call 28; refine (in_any _ _ _ _).mono ?_; rintro e w' ⟨rfl, rfl⟩; first | rw [HQ.out] | rw [HF.out])
                generalize w5.alloc (.cells (bbC 2 a5 L.length c5 r f s t) 26) = w7 at *
                refine (pipe_spec _ _ _ _ _ _ _ _ _ H7.out.2.2.2 HLP.out.1 hR2).mono ?_
                rintro e w8 ⟨rfl, hg⟩
                have H8 := Lib.hid (And.intro (H7.out.1.keep hg) (And.intro (H7.out.2.1.keep hg) (own_kept H7.out.2.2.1 hg)))
                clear hg b0 b1 b2 b3 b4 b5 z0 z1 z2 z3 z4 z5 zf0 zf1 zf2 zf3 zf4 zf5
                have z0 := (H8.out.1.r).c 0 rfl
                have z1 := (H8.out.1.r).c 1 rfl
                have z2 := (H8.out.1.r).c 2 rfl
                have z3 := (H8.out.1.r).c 3 rfl
                have z4 := (H8.out.1.r).c 4 rfl
                have z5 := (H8.out.1.r).c 5 rfl
                have zf0 := (H8.out.1.r).f 0
                have zf1 := (H8.out.1.r).f 1
                have zf2 := (H8.out.1.r).f 2
                have zf3 := (H8.out.1.r).f 3
                have zf4 := (H8.out.1.r).f 4
                have zf5 := (H8.out.1.r).f 5
                have n0 := (H8.out.2.1).c 0 rfl
                have n1 := (H8.out.2.1).c 1 rfl
                have n2 := (H8.out.2.1).c 2 rfl
                have n3 := (H8.out.2.1).c 3 rfl
                have n4 := (H8.out.2.1).c 4 rfl
                have n5 := (H8.out.2.1).c 5 rfl
                have nf0 := (H8.out.2.1).f 0
                have nf1 := (H8.out.2.1).f 1
                have nf2 := (H8.out.2.1).f 2
                have nf3 := (H8.out.2.1).f 3
                have nf4 := (H8.out.2.1).f 4
                have nf5 := (H8.out.2.1).f 5
                generalize pipeF L r = Y at *
                go_wp2_with fail
                refine bodyPost_ret (v := .tuple #[bbV 3 a5 L.length c5 r f s t, .bool true]) ?_ rfl (bs_yes HYES.out HUX.out ?_ ?_ (show w.heap.size ≤ w.heap.size + 1 + 1 + 1 by omega))
                · simp [results, Try.results8, go_sem, z0, z1, z2, z3, z4, z5]
                · repeat (first | with_reducible exact H8.out.1.g | with_reducible refine gS ?_ (by omega) _ _)
                · repeat (first | with_reducible exact H8.out.2.2 | with_reducible refine own_setB ?_ (by omega) | with_reducible refine own_setN ?_ HO5.out (Nat.le_refl _))
              · have HUX := Lib.hid (show stepN (⟨2, l, r, f, s, t⟩ : Bb) (tx, rx) r fl = ⟨2, L, r, f, s, t⟩ by rw [HUU.out, drF, if_neg hc])
                go_wp2_with (go_at_call 28; refine (in_any _ _ _ _).mono ?_; rintro e w' ⟨rfl, rfl⟩; first | rw [HQ.out] | rw [HF.out])
                generalize w5.alloc (.cells (bbC 2 a5 L.length c5 r f s t) 26) = w7 at *
                refine (pipe_spec _ _ _ _ _ _ _ _ _ H7.out.2.2.2 HLP.out.1 hR2).mono ?_
                rintro e w8 ⟨rfl, hg⟩
                have H8 := Lib.hid (And.intro (H7.out.1.keep hg) (And.intro (H7.out.2.1.keep hg) (own_kept H7.out.2.2.1 hg)))
                clear hg b0 b1 b2 b3 b4 b5 z0 z1 z2 z3 z4 z5 zf0 zf1 zf2 zf3 zf4 zf5
                have z0 := (H8.out.1.r).c 0 rfl
                have z1 := (H8.out.1.r).c 1 rfl
                have z2 := (H8.out.1.r).c 2 rfl
                have z3 := (H8.out.1.r).c 3 rfl
                have z4 := (H8.out.1.r).c 4 rfl
                have z5 := (H8.out.1.r).c 5 rfl
                have zf0 := (H8.out.1.r).f 0
                have zf1 := (H8.out.1.r).f 1
                have zf2 := (H8.out.1.r).f 2
                have zf3 := (H8.out.1.r).f 3
                have zf4 := (H8.out.1.r).f 4
                have zf5 := (H8.out.1.r).f 5
                have n0 := (H8.out.2.1).c 0 rfl
                have n1 := (H8.out.2.1).c 1 rfl
                have n2 := (H8.out.2.1).c 2 rfl
                have n3 := (H8.out.2.1).c 3 rfl
                have n4 := (H8.out.2.1).c 4 rfl
                have n5 := (H8.out.2.1).c 5 rfl
                have nf0 := (H8.out.2.1).f 0
                have nf1 := (H8.out.2.1).f 1
                have nf2 := (H8.out.2.1).f 2
                have nf3 := (H8.out.2.1).f 3
                have nf4 := (H8.out.2.1).f 4
                have nf5 := (H8.out.2.1).f 5
                generalize pipeF L r = Y at *
                go_wp2_with fail
                refine bodyPost_ret (v := .tuple #[bbV 2 a5 L.length c5 r f s t, .bool true]) ?_ rfl (bs_yes HYES.out HUX.out ?_ ?_ (show w.heap.size ≤ w.heap.size + 1 + 1 + 1 by omega))
                · simp [results, Try.results8, go_sem, z0, z1, z2, z3, z4, z5]
                · repeat (first | with_reducible exact H8.out.1.g | with_reducible refine gS ?_ (by omega) _ _)
                · repeat (first | with_reducible exact H8.out.2.2 | with_reducible refine own_setB ?_ (by omega) | with_reducible refine own_setN ?_ HO5.out (Nat.le_refl _))
            · have hm2 : ¬ r < q := by omega
              have hm3 : ¬ r ≤ q := by omega
              have hm5 : q ≤ r := by omega
              have hm4 : min r q = q := by omega
              have HMN := Lib.hid (show mnI r q = q from if_neg hm2)
              have hR2 : 1 ≤ q ∧ q ≤ 60000 := by omega
              have HUU := Lib.hid (show stepN (⟨2, l, r, f, s, t⟩ : Bb) (tx, rx) q fl = drF (addF l (tx, rx) (10 * r)) q f s t fl by simp [stepN, HMN.out])
              go_enter Try.func8, Try.ntmps8
              go_wp2_with fail
              generalize (((w.alloc (.cells (bbC 2 a l.length c r f s t) 26)).alloc (.cells #[.int .i64 tx, .int .i64 rx] 28)).alloc (.cells (#[.int .i64 0, .slice none 0 0, .int .i64 0, .int .i64 0, .int .i64 0, .int .i64 0]) 26)) = w3 at *
              refine (HFA.out _ _ _ HR.out).mono ?_
              rintro e w4 ⟨a5, c5, rfl, hg, ho⟩
              have H4 := Lib.hid (H3.out.keep hg)
              have HR4 := Lib.hid (HR.out.kept hg)
              have hs4 := hg.size
              have hlt3 := H3.out.r.lt
              have HO4 := Lib.hid (own_base ho (show w.heap.size + 1 + 1 + 1 ≤ w3.heap.size by omega))
              clear hg ho
              have b0 := (H4.out.b).c 0 rfl
              have b1 := (H4.out.b).c 1 rfl
              have b2 := (H4.out.b).c 2 rfl
              have b3 := (H4.out.b).c 3 rfl
              have b4 := (H4.out.b).c 4 rfl
              have b5 := (H4.out.b).c 5 rfl
              go_wp2_with fail
              refine (bb_ok_spec _ _ _ _ _ _ _ _ _ HR4.out (by omega)).mono ?_
              rintro e w5 ⟨rfl, hg⟩
              rw [HOK.out]
              have H5 := Lib.hid (H4.out.keep hg)
              have HO5 := Lib.hid (own_kept HO4.out hg)
              have hs5 := hg.size
              clear hg b0 b1 b2 b3 b4 b5
              have b0 := (H5.out.b).c 0 rfl
              have b1 := (H5.out.b).c 1 rfl
              have b2 := (H5.out.b).c 2 rfl
              have b3 := (H5.out.b).c 3 rfl
              have b4 := (H5.out.b).c 4 rfl
              have b5 := (H5.out.b).c 5 rfl
              have z0 := (H5.out.r).c 0 rfl
              have z1 := (H5.out.r).c 1 rfl
              have z2 := (H5.out.r).c 2 rfl
              have z3 := (H5.out.r).c 3 rfl
              have z4 := (H5.out.r).c 4 rfl
              have z5 := (H5.out.r).c 5 rfl
              have zf0 := (H5.out.r).f 0
              have zf1 := (H5.out.r).f 1
              have zf2 := (H5.out.r).f 2
              have zf3 := (H5.out.r).f 3
              have zf4 := (H5.out.r).f 4
              have zf5 := (H5.out.r).f 5
              have hsB : w.heap.size < w5.heap.size := H5.out.b.lt
              have hsN : w.heap.size + 1 + 1 < w5.heap.size := H5.out.r.lt
              generalize addF l (tx, rx) (10 * r) = L at *
              have hN := Bx.new w5 26 (bbC 2 a5 L.length c5 q f s t)
              have gN := World.grownBy_alloc w5 (.cells (bbC 2 a5 L.length c5 q f s t) 26) none
              have H7 := Lib.hid (And.intro (H5.out.keep gN) (And.intro hN (And.intro (own_kept HO5.out gN) (rg_own (own_kept HO5.out gN)))))
              clear hN gN
              by_cases hc : fl ≤ pipeF L q
              · have HUX := Lib.hid (show stepN (⟨2, l, r, f, s, t⟩ : Bb) (tx, rx) q fl = ⟨3, L, q, f, s, t⟩ by rw [HUU.out, drF, if_pos hc])
                go_wp2_with (go_at_call 28; refine (in_any _ _ _ _).mono ?_; rintro e w' ⟨rfl, rfl⟩; first | rw [HQ.out] | rw [HF.out])
                generalize w5.alloc (.cells (bbC 2 a5 L.length c5 q f s t) 26) = w7 at *
                refine (pipe_spec _ _ _ _ _ _ _ _ _ H7.out.2.2.2 HLP.out.1 hR2).mono ?_
                rintro e w8 ⟨rfl, hg⟩
                have H8 := Lib.hid (And.intro (H7.out.1.keep hg) (And.intro (H7.out.2.1.keep hg) (own_kept H7.out.2.2.1 hg)))
                clear hg b0 b1 b2 b3 b4 b5 z0 z1 z2 z3 z4 z5 zf0 zf1 zf2 zf3 zf4 zf5
                have z0 := (H8.out.1.r).c 0 rfl
                have z1 := (H8.out.1.r).c 1 rfl
                have z2 := (H8.out.1.r).c 2 rfl
                have z3 := (H8.out.1.r).c 3 rfl
                have z4 := (H8.out.1.r).c 4 rfl
                have z5 := (H8.out.1.r).c 5 rfl
                have zf0 := (H8.out.1.r).f 0
                have zf1 := (H8.out.1.r).f 1
                have zf2 := (H8.out.1.r).f 2
                have zf3 := (H8.out.1.r).f 3
                have zf4 := (H8.out.1.r).f 4
                have zf5 := (H8.out.1.r).f 5
                have n0 := (H8.out.2.1).c 0 rfl
                have n1 := (H8.out.2.1).c 1 rfl
                have n2 := (H8.out.2.1).c 2 rfl
                have n3 := (H8.out.2.1).c 3 rfl
                have n4 := (H8.out.2.1).c 4 rfl
                have n5 := (H8.out.2.1).c 5 rfl
                have nf0 := (H8.out.2.1).f 0
                have nf1 := (H8.out.2.1).f 1
                have nf2 := (H8.out.2.1).f 2
                have nf3 := (H8.out.2.1).f 3
                have nf4 := (H8.out.2.1).f 4
                have nf5 := (H8.out.2.1).f 5
                generalize pipeF L q = Y at *
                go_wp2_with fail
                refine bodyPost_ret (v := .tuple #[bbV 3 a5 L.length c5 q f s t, .bool true]) ?_ rfl (bs_yes HYES.out HUX.out ?_ ?_ (show w.heap.size ≤ w.heap.size + 1 + 1 + 1 by omega))
                · simp [results, Try.results8, go_sem, z0, z1, z2, z3, z4, z5]
                · repeat (first | with_reducible exact H8.out.1.g | with_reducible refine gS ?_ (by omega) _ _)
                · repeat (first | with_reducible exact H8.out.2.2 | with_reducible refine own_setB ?_ (by omega) | with_reducible refine own_setN ?_ HO5.out (Nat.le_refl _))
              · have HUX := Lib.hid (show stepN (⟨2, l, r, f, s, t⟩ : Bb) (tx, rx) q fl = ⟨2, L, q, f, s, t⟩ by rw [HUU.out, drF, if_neg hc])
                go_wp2_with (go_at_call 28; refine (in_any _ _ _ _).mono ?_; rintro e w' ⟨rfl, rfl⟩; first | rw [HQ.out] | rw [HF.out])
                generalize w5.alloc (.cells (bbC 2 a5 L.length c5 q f s t) 26) = w7 at *
                refine (pipe_spec _ _ _ _ _ _ _ _ _ H7.out.2.2.2 HLP.out.1 hR2).mono ?_
                rintro e w8 ⟨rfl, hg⟩
                have H8 := Lib.hid (And.intro (H7.out.1.keep hg) (And.intro (H7.out.2.1.keep hg) (own_kept H7.out.2.2.1 hg)))
                clear hg b0 b1 b2 b3 b4 b5 z0 z1 z2 z3 z4 z5 zf0 zf1 zf2 zf3 zf4 zf5
                have z0 := (H8.out.1.r).c 0 rfl
                have z1 := (H8.out.1.r).c 1 rfl
                have z2 := (H8.out.1.r).c 2 rfl
                have z3 := (H8.out.1.r).c 3 rfl
                have z4 := (H8.out.1.r).c 4 rfl
                have z5 := (H8.out.1.r).c 5 rfl
                have zf0 := (H8.out.1.r).f 0
                have zf1 := (H8.out.1.r).f 1
                have zf2 := (H8.out.1.r).f 2
                have zf3 := (H8.out.1.r).f 3
                have zf4 := (H8.out.1.r).f 4
                have zf5 := (H8.out.1.r).f 5
                have n0 := (H8.out.2.1).c 0 rfl
                have n1 := (H8.out.2.1).c 1 rfl
                have n2 := (H8.out.2.1).c 2 rfl
                have n3 := (H8.out.2.1).c 3 rfl
                have n4 := (H8.out.2.1).c 4 rfl
                have n5 := (H8.out.2.1).c 5 rfl
                have nf0 := (H8.out.2.1).f 0
                have nf1 := (H8.out.2.1).f 1
                have nf2 := (H8.out.2.1).f 2
                have nf3 := (H8.out.2.1).f 3
                have nf4 := (H8.out.2.1).f 4
                have nf5 := (H8.out.2.1).f 5
                generalize pipeF L q = Y at *
                go_wp2_with fail
                refine bodyPost_ret (v := .tuple #[bbV 2 a5 L.length c5 q f s t, .bool true]) ?_ rfl (bs_yes HYES.out HUX.out ?_ ?_ (show w.heap.size ≤ w.heap.size + 1 + 1 + 1 by omega))
                · simp [results, Try.results8, go_sem, z0, z1, z2, z3, z4, z5]
                · repeat (first | with_reducible exact H8.out.1.g | with_reducible refine gS ?_ (by omega) _ _)
                · repeat (first | with_reducible exact H8.out.2.2 | with_reducible refine own_setB ?_ (by omega) | with_reducible refine own_setN ?_ HO5.out (Nat.le_refl _))
          · clear hs1 hl1
            have hmm : r < q ∨ r = q ∨ q < r := by omega
            rcases hmm with hm | hm | hm
            · have hm2 : ¬ q < r := by omega
              have hm3 : ¬ q ≤ r := by omega
              have hm5 : r ≤ q := by omega
              have hm4 : min r q = r := by omega
              have HMN := Lib.hid (show mnI r q = r from if_pos hm)
              have hR2 : 1 ≤ r ∧ r ≤ 60000 := by omega
              have HUU := Lib.hid (show stepN (⟨3, l, r, f, s, t⟩ : Bb) (tx, rx) q fl = prF (addF l (tx, rx) (10 * r)) r f s t by simp [stepN, HMN.out])
              go_enter Try.func8, Try.ntmps8
              go_wp2_with fail
              generalize (((w.alloc (.cells (bbC 3 a l.length c r f s t) 26)).alloc (.cells #[.int .i64 tx, .int .i64 rx] 28)).alloc (.cells (#[.int .i64 0, .slice none 0 0, .int .i64 0, .int .i64 0, .int .i64 0, .int .i64 0]) 26)) = w3 at *
              refine (HFA.out _ _ _ HR.out).mono ?_
              rintro e w4 ⟨a5, c5, rfl, hg, ho⟩
              have H4 := Lib.hid (H3.out.keep hg)
              have HR4 := Lib.hid (HR.out.kept hg)
              have hs4 := hg.size
              have hlt3 := H3.out.r.lt
              have HO4 := Lib.hid (own_base ho (show w.heap.size + 1 + 1 + 1 ≤ w3.heap.size by omega))
              clear hg ho
              have b0 := (H4.out.b).c 0 rfl
              have b1 := (H4.out.b).c 1 rfl
              have b2 := (H4.out.b).c 2 rfl
              have b3 := (H4.out.b).c 3 rfl
              have b4 := (H4.out.b).c 4 rfl
              have b5 := (H4.out.b).c 5 rfl
              go_wp2_with fail
              refine (bb_ok_spec _ _ _ _ _ _ _ _ _ HR4.out (by omega)).mono ?_
              rintro e w5 ⟨rfl, hg⟩
              rw [HOK.out]
              have H5 := Lib.hid (H4.out.keep hg)
              have HO5 := Lib.hid (own_kept HO4.out hg)
              have hs5 := hg.size
              clear hg b0 b1 b2 b3 b4 b5
              have b0 := (H5.out.b).c 0 rfl
              have b1 := (H5.out.b).c 1 rfl
              have b2 := (H5.out.b).c 2 rfl
              have b3 := (H5.out.b).c 3 rfl
              have b4 := (H5.out.b).c 4 rfl
              have b5 := (H5.out.b).c 5 rfl
              have z0 := (H5.out.r).c 0 rfl
              have z1 := (H5.out.r).c 1 rfl
              have z2 := (H5.out.r).c 2 rfl
              have z3 := (H5.out.r).c 3 rfl
              have z4 := (H5.out.r).c 4 rfl
              have z5 := (H5.out.r).c 5 rfl
              have zf0 := (H5.out.r).f 0
              have zf1 := (H5.out.r).f 1
              have zf2 := (H5.out.r).f 2
              have zf3 := (H5.out.r).f 3
              have zf4 := (H5.out.r).f 4
              have zf5 := (H5.out.r).f 5
              have hsB : w.heap.size < w5.heap.size := H5.out.b.lt
              have hsN : w.heap.size + 1 + 1 < w5.heap.size := H5.out.r.lt
              generalize addF l (tx, rx) (10 * r) = L at *
              have HUX := Lib.hid (show stepN (⟨3, l, r, f, s, t⟩ : Bb) (tx, rx) q fl = ⟨3, L, r, f, s, (t + 1) % 8⟩ from HUU.out)
              have hw1 : IntKind.i64.wrap (t + 1) = t + 1 := wq (by omega)
              have hw2 : IntKind.i64.wrap ((t + 1).tmod 8) = (t + 1) % 8 := by rw [Int.tmod_eq_emod_of_nonneg (by omega)]; exact wq (by omega)
              go_wp2_with (go_at_call 28; refine (in_any _ _ _ _).mono ?_; rintro e w' ⟨rfl, rfl⟩; first | rw [HQ.out] | rw [HF.out])
              have q0 := (show Bx _ _ _ #[.int .i64 3, .slice none 0 0, .int .i64 0, .int .i64 0, .int .i64 0, .int .i64 0] from H5.out.r.s 0 (.int .i64 3))
              have q1 := (show Bx _ _ _ #[.int .i64 3, .slice a5 L.length c5, .int .i64 0, .int .i64 0, .int .i64 0, .int .i64 0] from q0.s 1 (.slice a5 L.length c5))
              have q2 := (show Bx _ _ _ #[.int .i64 3, .slice a5 L.length c5, .int .i64 r, .int .i64 0, .int .i64 0, .int .i64 0] from q1.s 2 (.int .i64 r))
              have q3 := (show Bx _ _ _ #[.int .i64 3, .slice a5 L.length c5, .int .i64 r, .int .i64 f, .int .i64 0, .int .i64 0] from q2.s 3 (.int .i64 f))
              have q4 := (show Bx _ _ _ #[.int .i64 3, .slice a5 L.length c5, .int .i64 r, .int .i64 f, .int .i64 s, .int .i64 0] from q3.s 4 (.int .i64 s))
              have q5 := (show Bx _ _ _ #[.int .i64 3, .slice a5 L.length c5, .int .i64 r, .int .i64 f, .int .i64 s, .int .i64 ((t + 1) % 8)] from q4.s 5 (.int .i64 ((t + 1) % 8)))
              have q6 := q5.alloc (.cells (bbC 3 a5 L.length c5 r f s ((t + 1) % 8)) 26)
              have e0 := q6.c 0 rfl
              have e1 := q6.c 1 rfl
              have e2 := q6.c 2 rfl
              have e3 := q6.c 3 rfl
              have e4 := q6.c 4 rfl
              have e5 := q6.c 5 rfl
              refine bodyPost_ret (v := .tuple #[bbV 3 a5 L.length c5 r f s ((t + 1) % 8), .bool true]) ?_ rfl (bs_yes HYES.out HUX.out ?_ ?_ (show w.heap.size ≤ w.heap.size + 1 + 1 + 1 by omega))
              · simp [results, Try.results8, go_sem, e0, e1, e2, e3, e4, e5]
              · refine gA ?_ _; repeat (first | with_reducible exact H5.out.g | with_reducible refine gS ?_ (by omega) _ _)
              · refine own_kept ?_ (World.grownBy_alloc _ _ _); repeat (first | with_reducible exact HO5.out | with_reducible refine own_setB ?_ (by omega) | with_reducible refine own_setN ?_ HO5.out (Nat.le_refl _))
            · subst hm
              have HMN := Lib.hid (show mnI r r = r by unfold mnI; split <;> rfl)
              have hR2 : 1 ≤ r ∧ r ≤ 60000 := by omega
              have HUU := Lib.hid (show stepN (⟨3, l, r, f, s, t⟩ : Bb) (tx, rx) r fl = prF (addF l (tx, rx) (10 * r)) r f s t by simp [stepN, HMN.out])
              go_enter Try.func8, Try.ntmps8
              go_wp2_with fail
              generalize (((w.alloc (.cells (bbC 3 a l.length c r f s t) 26)).alloc (.cells #[.int .i64 tx, .int .i64 rx] 28)).alloc (.cells (#[.int .i64 0, .slice none 0 0, .int .i64 0, .int .i64 0, .int .i64 0, .int .i64 0]) 26)) = w3 at *
              refine (HFA.out _ _ _ HR.out).mono ?_
              rintro e w4 ⟨a5, c5, rfl, hg, ho⟩
              have H4 := Lib.hid (H3.out.keep hg)
              have HR4 := Lib.hid (HR.out.kept hg)
              have hs4 := hg.size
              have hlt3 := H3.out.r.lt
              have HO4 := Lib.hid (own_base ho (show w.heap.size + 1 + 1 + 1 ≤ w3.heap.size by omega))
              clear hg ho
              have b0 := (H4.out.b).c 0 rfl
              have b1 := (H4.out.b).c 1 rfl
              have b2 := (H4.out.b).c 2 rfl
              have b3 := (H4.out.b).c 3 rfl
              have b4 := (H4.out.b).c 4 rfl
              have b5 := (H4.out.b).c 5 rfl
              go_wp2_with fail
              refine (bb_ok_spec _ _ _ _ _ _ _ _ _ HR4.out (by omega)).mono ?_
              rintro e w5 ⟨rfl, hg⟩
              rw [HOK.out]
              have H5 := Lib.hid (H4.out.keep hg)
              have HO5 := Lib.hid (own_kept HO4.out hg)
              have hs5 := hg.size
              clear hg b0 b1 b2 b3 b4 b5
              have b0 := (H5.out.b).c 0 rfl
              have b1 := (H5.out.b).c 1 rfl
              have b2 := (H5.out.b).c 2 rfl
              have b3 := (H5.out.b).c 3 rfl
              have b4 := (H5.out.b).c 4 rfl
              have b5 := (H5.out.b).c 5 rfl
              have z0 := (H5.out.r).c 0 rfl
              have z1 := (H5.out.r).c 1 rfl
              have z2 := (H5.out.r).c 2 rfl
              have z3 := (H5.out.r).c 3 rfl
              have z4 := (H5.out.r).c 4 rfl
              have z5 := (H5.out.r).c 5 rfl
              have zf0 := (H5.out.r).f 0
              have zf1 := (H5.out.r).f 1
              have zf2 := (H5.out.r).f 2
              have zf3 := (H5.out.r).f 3
              have zf4 := (H5.out.r).f 4
              have zf5 := (H5.out.r).f 5
              have hsB : w.heap.size < w5.heap.size := H5.out.b.lt
              have hsN : w.heap.size + 1 + 1 < w5.heap.size := H5.out.r.lt
              generalize addF l (tx, rx) (10 * r) = L at *
              have HUX := Lib.hid (show stepN (⟨3, l, r, f, s, t⟩ : Bb) (tx, rx) r fl = ⟨3, L, r, f, s, (t + 1) % 8⟩ from HUU.out)
              have hw1 : IntKind.i64.wrap (t + 1) = t + 1 := wq (by omega)
              have hw2 : IntKind.i64.wrap ((t + 1).tmod 8) = (t + 1) % 8 := by rw [Int.tmod_eq_emod_of_nonneg (by omega)]; exact wq (by omega)
              go_wp2_with (go_at_call 28; refine (in_any _ _ _ _).mono ?_; rintro e w' ⟨rfl, rfl⟩; first | rw [HQ.out] | rw [HF.out])
              have q0 := (show Bx _ _ _ #[.int .i64 3, .slice none 0 0, .int .i64 0, .int .i64 0, .int .i64 0, .int .i64 0] from H5.out.r.s 0 (.int .i64 3))
              have q1 := (show Bx _ _ _ #[.int .i64 3, .slice a5 L.length c5, .int .i64 0, .int .i64 0, .int .i64 0, .int .i64 0] from q0.s 1 (.slice a5 L.length c5))
              have q2 := (show Bx _ _ _ #[.int .i64 3, .slice a5 L.length c5, .int .i64 r, .int .i64 0, .int .i64 0, .int .i64 0] from q1.s 2 (.int .i64 r))
              have q3 := (show Bx _ _ _ #[.int .i64 3, .slice a5 L.length c5, .int .i64 r, .int .i64 f, .int .i64 0, .int .i64 0] from q2.s 3 (.int .i64 f))
              have q4 := (show Bx _ _ _ #[.int .i64 3, .slice a5 L.length c5, .int .i64 r, .int .i64 f, .int .i64 s, .int .i64 0] from q3.s 4 (.int .i64 s))
              have q5 := (show Bx _ _ _ #[.int .i64 3, .slice a5 L.length c5, .int .i64 r, .int .i64 f, .int .i64 s, .int .i64 ((t + 1) % 8)] from q4.s 5 (.int .i64 ((t + 1) % 8)))
              have q6 := q5.alloc (.cells (bbC 3 a5 L.length c5 r f s ((t + 1) % 8)) 26)
              have e0 := q6.c 0 rfl
              have e1 := q6.c 1 rfl
              have e2 := q6.c 2 rfl
              have e3 := q6.c 3 rfl
              have e4 := q6.c 4 rfl
              have e5 := q6.c 5 rfl
              refine bodyPost_ret (v := .tuple #[bbV 3 a5 L.length c5 r f s ((t + 1) % 8), .bool true]) ?_ rfl (bs_yes HYES.out HUX.out ?_ ?_ (show w.heap.size ≤ w.heap.size + 1 + 1 + 1 by omega))
              · simp [results, Try.results8, go_sem, e0, e1, e2, e3, e4, e5]
              · refine gA ?_ _; repeat (first | with_reducible exact H5.out.g | with_reducible refine gS ?_ (by omega) _ _)
              · refine own_kept ?_ (World.grownBy_alloc _ _ _); repeat (first | with_reducible exact HO5.out | with_reducible refine own_setB ?_ (by omega) | with_reducible refine own_setN ?_ HO5.out (Nat.le_refl _))
            · have hm2 : ¬ r < q := by omega
              have hm3 : ¬ r ≤ q := by omega
              have hm5 : q ≤ r := by omega
              have hm4 : min r q = q := by omega
              have HMN := Lib.hid (show mnI r q = q from if_neg hm2)
              have hR2 : 1 ≤ q ∧ q ≤ 60000 := by omega
              have HUU := Lib.hid (show stepN (⟨3, l, r, f, s, t⟩ : Bb) (tx, rx) q fl = prF (addF l (tx, rx) (10 * r)) q f s t by simp [stepN, HMN.out])
              go_enter Try.func8, Try.ntmps8
              go_wp2_with fail
              generalize (((w.alloc (.cells (bbC 3 a l.length c r f s t) 26)).alloc (.cells #[.int .i64 tx, .int .i64 rx] 28)).alloc (.cells (#[.int .i64 0, .slice none 0 0, .int .i64 0, .int .i64 0, .int .i64 0, .int .i64 0]) 26)) = w3 at *
              refine (HFA.out _ _ _ HR.out).mono ?_
              rintro e w4 ⟨a5, c5, rfl, hg, ho⟩
              have H4 := Lib.hid (H3.out.keep hg)
              have HR4 := Lib.hid (HR.out.kept hg)
              have hs4 := hg.size
              have hlt3 := H3.out.r.lt
              have HO4 := Lib.hid (own_base ho (show w.heap.size + 1 + 1 + 1 ≤ w3.heap.size by omega))
              clear hg ho
              have b0 := (H4.out.b).c 0 rfl
              have b1 := (H4.out.b).c 1 rfl
              have b2 := (H4.out.b).c 2 rfl
              have b3 := (H4.out.b).c 3 rfl
              have b4 := (H4.out.b).c 4 rfl
              have b5 := (H4.out.b).c 5 rfl
              go_wp2_with fail
              refine (bb_ok_spec _ _ _ _ _ _ _ _ _ HR4.out (by omega)).mono ?_
              rintro e w5 ⟨rfl, hg⟩
              rw [HOK.out]
              have H5 := Lib.hid (H4.out.keep hg)
              have HO5 := Lib.hid (own_kept HO4.out hg)
              have hs5 := hg.size
              clear hg b0 b1 b2 b3 b4 b5
              have b0 := (H5.out.b).c 0 rfl
              have b1 := (H5.out.b).c 1 rfl
              have b2 := (H5.out.b).c 2 rfl
              have b3 := (H5.out.b).c 3 rfl
              have b4 := (H5.out.b).c 4 rfl
              have b5 := (H5.out.b).c 5 rfl
              have z0 := (H5.out.r).c 0 rfl
              have z1 := (H5.out.r).c 1 rfl
              have z2 := (H5.out.r).c 2 rfl
              have z3 := (H5.out.r).c 3 rfl
              have z4 := (H5.out.r).c 4 rfl
              have z5 := (H5.out.r).c 5 rfl
              have zf0 := (H5.out.r).f 0
              have zf1 := (H5.out.r).f 1
              have zf2 := (H5.out.r).f 2
              have zf3 := (H5.out.r).f 3
              have zf4 := (H5.out.r).f 4
              have zf5 := (H5.out.r).f 5
              have hsB : w.heap.size < w5.heap.size := H5.out.b.lt
              have hsN : w.heap.size + 1 + 1 < w5.heap.size := H5.out.r.lt
              generalize addF l (tx, rx) (10 * r) = L at *
              have HUX := Lib.hid (show stepN (⟨3, l, r, f, s, t⟩ : Bb) (tx, rx) q fl = ⟨3, L, q, f, s, (t + 1) % 8⟩ from HUU.out)
              have hw1 : IntKind.i64.wrap (t + 1) = t + 1 := wq (by omega)
              have hw2 : IntKind.i64.wrap ((t + 1).tmod 8) = (t + 1) % 8 := by rw [Int.tmod_eq_emod_of_nonneg (by omega)]; exact wq (by omega)
              go_wp2_with (go_at_call 28; refine (in_any _ _ _ _).mono ?_; rintro e w' ⟨rfl, rfl⟩; first | rw [HQ.out] | rw [HF.out])
              have q0 := (show Bx _ _ _ #[.int .i64 3, .slice none 0 0, .int .i64 0, .int .i64 0, .int .i64 0, .int .i64 0] from H5.out.r.s 0 (.int .i64 3))
              have q1 := (show Bx _ _ _ #[.int .i64 3, .slice a5 L.length c5, .int .i64 0, .int .i64 0, .int .i64 0, .int .i64 0] from q0.s 1 (.slice a5 L.length c5))
              have q2 := (show Bx _ _ _ #[.int .i64 3, .slice a5 L.length c5, .int .i64 q, .int .i64 0, .int .i64 0, .int .i64 0] from q1.s 2 (.int .i64 q))
              have q3 := (show Bx _ _ _ #[.int .i64 3, .slice a5 L.length c5, .int .i64 q, .int .i64 f, .int .i64 0, .int .i64 0] from q2.s 3 (.int .i64 f))
              have q4 := (show Bx _ _ _ #[.int .i64 3, .slice a5 L.length c5, .int .i64 q, .int .i64 f, .int .i64 s, .int .i64 0] from q3.s 4 (.int .i64 s))
              have q5 := (show Bx _ _ _ #[.int .i64 3, .slice a5 L.length c5, .int .i64 q, .int .i64 f, .int .i64 s, .int .i64 ((t + 1) % 8)] from q4.s 5 (.int .i64 ((t + 1) % 8)))
              have q6 := q5.alloc (.cells (bbC 3 a5 L.length c5 q f s ((t + 1) % 8)) 26)
              have e0 := q6.c 0 rfl
              have e1 := q6.c 1 rfl
              have e2 := q6.c 2 rfl
              have e3 := q6.c 3 rfl
              have e4 := q6.c 4 rfl
              have e5 := q6.c 5 rfl
              refine bodyPost_ret (v := .tuple #[bbV 3 a5 L.length c5 q f s ((t + 1) % 8), .bool true]) ?_ rfl (bs_yes HYES.out HUX.out ?_ ?_ (show w.heap.size ≤ w.heap.size + 1 + 1 + 1 by omega))
              · simp [results, Try.results8, go_sem, e0, e1, e2, e3, e4, e5]
              · refine gA ?_ _; repeat (first | with_reducible exact H5.out.g | with_reducible refine gS ?_ (by omega) _ _)
              · refine own_kept ?_ (World.grownBy_alloc _ _ _); repeat (first | with_reducible exact HO5.out | with_reducible refine own_setB ?_ (by omega) | with_reducible refine own_setN ?_ HO5.out (Nat.le_refl _))

end Go.Proofs.Yteomllgkcolmhaa
