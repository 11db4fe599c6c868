/- The model's reading of a packet's body. -/
import Derived.Test.YtbhbbmocioefnaaRdPkF
import Derived.Test.YtbhbbmocioefnaaRdSpec
import Derived.Test.YtbhbbmocioefnaaTrcS
namespace Go.Proofs.Ytbhbbmocioefnaa
open Go.RowKit

def BodyPost (w : World) (t : List UInt8) (big : Bool) (e : Ending) (w' : World) : Prop :=
  ∃ (k : Int) (m : List UInt8) (b : Bool), e = .returned (.tuple #[.agg #[.int .i64 k, .string ⟨m.toArray⟩], .bool b]) ∧ w.grownBy w' none ∧
    (b = true → ∃ q, PkR t big q ∧ k = timeOf t 4 big ∧ m = (t.drop 20).take q) ∧ (b = false → ∀ q, ¬ PkR t big q)

theorem body_yes (t : List UInt8) (big : Bool) (q : Nat) (h : hiOf t 12 big = (q : Int)) (h1 : q ≤ 400) (h2 : 20 + q ≤ t.length) (h3 : (q : Int) ≤ hiOf t 16 big) :
    (∀ (K : Int) (m : List UInt8), timeOf t 4 big = K → (t.drop 20).take q = m → ((0 ≤ hiOf t 4 big ∧ hiOf t 4 big < 4294967296) ∧ (0 ≤ hiOf t 8 big ∧ hiOf t 8 big < 4294967296) ∧ hiOf t 4 big ≤ 1000) → (decide (pkOk (K, m)) = true → ∃ q, PkR t big q ∧ K = timeOf t 4 big ∧ m = (t.drop 20).take q)) ∧
    (∀ (K : Int) (m : List UInt8), timeOf t 4 big = K → (t.drop 20).take q = m → (decide (pkOk (K, m)) = false → ∀ q, ¬ PkR t big q)) := by
  have e : timeOf t 4 big = hiOf t 4 big * 4294967296 + hiOf t 8 big := rfl
  refine ⟨?_, ?_⟩
  · rintro K m rfl rfl hb hp
    have hk := (of_decide_eq_true hp).2.1
    simp only at hk
    exact ⟨q, ⟨⟨by omega, by omega, hk⟩, h, h1, h3, h2⟩, rfl, rfl⟩
  · rintro K m rfl rfl hp q' hq'
    have hh := of_decide_eq_false hp
    have hb := hi_bd t 4 big (by omega)
    have hb8 := hi_bd t 8 big (by omega)
    have hq2 := hq'.size
    refine hh ⟨?_, hq'.time.most, ?_⟩
    · show 0 ≤ timeOf t 4 big
      omega
    · show ((t.drop 20).take q).length ≤ 400
      simp
      omega

set_option maxRecDepth 100000 in
set_option maxHeartbeats 1000000 in
theorem body_spec (t : List UInt8) (big : Bool) (w : World) (hl : t.length ≤ 1000000) : Calls Try.prog 37 #[.string ⟨t.toArray⟩, .bool big] w (BodyPost w t big) := by
  by_cases h20 : (t.length : Int) < 20
  · have HN := Lib.hid (fun q hq => by have := PkR.here hq; omega : ∀ q, ¬ PkR t big q)
    go_enter Try.func37, Try.ntmps37
    go_wp2_with fail
    exact bodyPost_ret (v := .tuple #[.agg #[.int .i64 0, .string ⟨#[]⟩], .bool false]) (by simp [results, Try.results37, go_sem]) rfl ⟨0, [], false, rfl, World.grownBy_alloc _ _ _, fun h => by simp at h, fun _ => HN.out⟩
  · have hi20 : 20 ≤ (t.length : Int) := by omega
    have hi8 : 8 ≤ (t.length : Int) := by omega
    have hi16 : 16 ≤ (t.length : Int) := by omega
    have hi12 : 12 ≤ (t.length : Int) := by omega
    have hx1 := extract_mid t 4 8 (by omega)
    have hx2 := extract_mid t 8 12 (by omega)
    have hx3 := extract_mid t 12 16 (by omega)
    have hx4 := extract_mid t 16 20 (by omega)
    have HX := Lib.hid (And.intro hx1 (And.intro hx2 (And.intro hx3 hx4)))
    clear hx1 hx2 hx3 hx4
    go_enter Try.func37, Try.ntmps37
    go_wp2_with fail
    rw [HX.out.1]
    refine (get2_any ((t.drop 4).take 4) big _ (by rw [four_len t 4 (by omega)]; omega)).mono ?_
    rintro e w1 ⟨rfl, hg⟩
    rw [show numOf ((t.drop 4).take 4) big = hiOf t 4 big from rfl]
    have b1 := hi_bd t 4 big (by omega)
    have s0 := hg.cell (a := ⟨w.heap.size, 0, none⟩) (v := .int .i64 0) (by go_simp) (by simp)
    have s1 := hg.cell (a := ⟨w.heap.size, 1, none⟩) (v := .string ⟨#[]⟩) (by go_simp) (by simp)
    have f0 := grown_frozen hg (p := ⟨w.heap.size, 0, none⟩) (v := .int .i64 0) (by go_simp) (by simp) (x := false) (by go_simp)
    have f1 := grown_frozen hg (p := ⟨w.heap.size, 1, none⟩) (v := .string ⟨#[]⟩) (by go_simp) (by simp) (x := false) (by go_simp)
    have H1 := Lib.hid (grownBy_trans (World.grownBy_alloc _ _ _) hg)
    clear hg
    go_wp2_with fail
    rw [HX.out.2.2.1]
    refine (get2_any ((t.drop 12).take 4) big _ (by rw [four_len t 12 (by omega)]; omega)).mono ?_
    rintro e w2 ⟨rfl, hg⟩
    rw [show numOf ((t.drop 12).take 4) big = hiOf t 12 big from rfl]
    have b2 := hi_bd t 12 big (by omega)
    have z0 := hg.cell s0 (by simp)
    have z1 := hg.cell s1 (by simp)
    have x0 := grown_frozen hg s0 (by simp) f0
    have x1 := grown_frozen hg s1 (by simp) f1
    have H2 := Lib.hid (grownBy_trans H1.out hg)
    clear hg s0 s1 f0 f1
    have HK := Lib.hid (show ∀ q, PkR t big q → hiOf t 12 big = (q : Int) ∧ q ≤ 400 ∧ (q : Int) ≤ hiOf t 16 big ∧ 20 + q ≤ t.length ∧ hiOf t 4 big ≤ 232 ∧ timeOf t 4 big ≤ 1000000000000 from fun q hq => ⟨hq.size, hq.most, hq.whole, hq.here, hq.time.high, hq.time.most⟩)
    obtain ⟨q, hq⟩ := Int.eq_ofNat_of_zero_le b2.1
    have HQ := Lib.hid hq
    rw [hq]
    clear hq b2
    by_cases hc1 : (q : Int) ≤ 400
    · by_cases hc2 : (q : Int) ≤ (t.length : Int) - 20
      · by_cases hc3 : hiOf t 4 big ≤ 1000
        · go_wp2_with fail
          rw [HX.out.2.2.2]
          refine (get2_any ((t.drop 16).take 4) big _ (by rw [four_len t 16 (by omega)]; omega)).mono ?_
          rintro e w3 ⟨rfl, hg⟩
          rw [show numOf ((t.drop 16).take 4) big = hiOf t 16 big from rfl]
          have b3 := hi_bd t 16 big (by omega)
          have y0 := hg.cell z0 (by simp)
          have y1 := hg.cell z1 (by simp)
          have v0 := grown_frozen hg z0 (by simp) x0
          have v1 := grown_frozen hg z1 (by simp) x1
          have H3 := Lib.hid (grownBy_trans H2.out hg)
          clear hg z0 z1 x0 x1
          by_cases hc4 : hiOf t 16 big < (q : Int)
          · have HN := Lib.hid (fun q' hq' => by have := HK.out q' hq'; have := HQ.out; omega : ∀ q', ¬ PkR t big q')
            have z0 := y0
            have z1 := y1
            generalize hiOf t 16 big = h16 at *
            generalize hiOf t 4 big = h4 at *
            go_wp2_with fail
            have hW : w3.grownBy ((w3.setCell ⟨w.heap.size, 0, none⟩ (.int .i64 0)).setCell ⟨w.heap.size, 1, none⟩ (.string ⟨#[]⟩)) (some w.heap.size) := grownBy_trans (grownBy_set _ _ _ _) (grownBy_set _ _ _ _)
            exact bodyPost_ret (v := .tuple #[.agg #[.int .i64 0, .string ⟨#[]⟩], .bool false]) (by simp [results, Try.results37, go_sem, z0, z1]) rfl ⟨0, [], false, rfl, grownBy_new H3.out hW (Nat.le_refl _), fun h => by simp at h, fun _ => HN.out⟩
          · have HM := Lib.hid (show (⟨t.toArray⟩ : ByteArray).extract 20 (q + 20) = ⟨((t.drop 20).take q).toArray⟩ by rw [extract_mid t 20 (q + 20) (by omega), show q + 20 - 20 = q from by omega])
            have HC := Lib.hid (body_yes t big q HQ.out (by omega) (by omega) (by omega))
            have hj1 : (q : Int) + 20 ≤ (t.length : Int) := by omega
            have hj2 : 20 ≤ (q : Int) + 20 := by omega
            have hj3 : 20 + (q : Int) = (q : Int) + 20 := by omega
            have hj4 : IntKind.i64.wrap ((q : Int) + 20) = (q : Int) + 20 := IntWalk.i64_in _ (by omega)
            have hj5 : ((q : Int) + 20).toNat = q + 20 := by omega
            have hj6 : 0 ≤ (q : Int) + 20 := by omega
            have hj7 : IntKind.i64.wrap (hiOf t 4 big * 4294967296) = hiOf t 4 big * 4294967296 := IntWalk.i64_in _ (by omega)
            have b4 := hi_bd t 8 big (by omega)
            have hj8 : IntKind.i64.wrap (hiOf t 4 big * 4294967296 + hiOf t 8 big) = hiOf t 4 big * 4294967296 + hiOf t 8 big := IntWalk.i64_in _ (by omega)
            have z2 := grownBy_trans H3.out (grownBy_drew (r := none))
            have a0 : w3.drew.cell? ⟨w.heap.size, 0, none⟩ = some (.int .i64 0) := y0
            have a1 : w3.drew.cell? ⟨w.heap.size, 1, none⟩ = some (.string ⟨#[]⟩) := y1
            have a2 : w3.drew.frozen? ⟨w.heap.size, 0, none⟩ = false := v0
            have a3 : w3.drew.frozen? ⟨w.heap.size, 1, none⟩ = false := v1
            have hxx := extract_mid t 8 12 (by omega)
            have HXX := Lib.hid hxx
            have hlt3 := World.block_lt_of_cell? w3 ⟨w.heap.size, 0, none⟩ y0
            have hn3 : w.heap.size ≠ w3.heap.size := by simp at hlt3; omega
            have hn4 : w3.heap.size ≠ w.heap.size := by simp at hlt3; omega
            clear hlt3
            clear hxx
            go_wp2_with fail
            go_region_held3 (fun w' => w'.cell? ⟨w.heap.size, 0, none⟩ = some (.int .i64 0) ∧ w'.cell? ⟨w.heap.size, 1, none⟩ = some (.string ⟨#[]⟩) ∧ w'.frozen? ⟨w.heap.size, 0, none⟩ = false ∧ w'.frozen? ⟨w.heap.size, 1, none⟩ = false) ((refine ⟨by first | assumption | exact (World.grownBy_alloc _ _ none).cell (by assumption) (by simp) | (simp [*]; done) | (go_simp; done), by first | assumption | exact (World.grownBy_alloc _ _ none).cell (by assumption) (by simp) | (simp [*]; done) | (go_simp; done), by first | assumption | exact grown_frozen (World.grownBy_alloc _ _ none) (p := ⟨w.heap.size, 0, none⟩) (v := .int .i64 0) (by assumption) (by simp) (by assumption) | (simp [*]; done) | (go_simp; done), by first | assumption | exact grown_frozen (World.grownBy_alloc _ _ none) (p := ⟨w.heap.size, 1, none⟩) (v := .string ⟨#[]⟩) (by assumption) (by simp) (by assumption) | (simp [*]; done) | (go_simp; done)⟩))
              (first | (go_at_call 35; rw [HXX.out]; refine (get2_any ((t.drop 8).take 4) big _ (by rw [four_len t 8 (by omega)]; omega)).mono ?_; rintro e w4 ⟨rfl, hg⟩; rw [show numOf ((t.drop 8).take 4) big = hiOf t 8 big from rfl]; have q0 := hg.cell (a := ⟨w.heap.size, 0, none⟩) (v := .int .i64 0) (by first | assumption | (go_simp; done)) (by simp); have q1 := hg.cell (a := ⟨w.heap.size, 1, none⟩) (v := .string ⟨#[]⟩) (by first | assumption | (go_simp; done)) (by simp); have q2 := grown_frozen hg (p := ⟨w.heap.size, 0, none⟩) (v := .int .i64 0) (by first | assumption | (go_simp; done)) (by simp) (x := false) (by first | assumption | (go_simp; done)); have q3 := grown_frozen hg (p := ⟨w.heap.size, 1, none⟩) (v := .string ⟨#[]⟩) (by first | assumption | (go_simp; done)) (by simp) (x := false) (by first | assumption | (go_simp; done)); have q5 := World.block_lt_of_cell? w4 ⟨w.heap.size, 0, none⟩ q0; have q6 : w.heap.size ≠ w4.heap.size := (by simp at q5; omega); have q7 : w4.heap.size ≠ w.heap.size := (by simp at q5; omega); have r0 := fun h => hg.cell (a := ⟨w3.heap.size, 0, none⟩) (v := .int .i64 0) h (by simp); have r1 := fun h => hg.cell (a := ⟨w3.heap.size, 1, none⟩) (v := .string ⟨#[]⟩) h (by simp); have r2 := fun h h' => grown_frozen hg (p := ⟨w3.heap.size, 0, none⟩) (v := .int .i64 0) h (by simp) (x := false) h'; have r3 := fun h h' => grown_frozen hg (p := ⟨w3.heap.size, 1, none⟩) (v := .string ⟨#[]⟩) h (by simp) (x := false) h'))
            · have hT := two_new w4 (.int .i64 (hiOf t 4 big * 4294967296 + hiOf t 8 big)) (.string ((⟨t.toArray⟩ : ByteArray).extract 20 (q + 20))) 55
              have hR0 : Two w4 w.heap.size (.int .i64 0) (.string ⟨#[]⟩) := ⟨q0, q1, q2, q3⟩
              have hR := hR0.kept (World.grownBy_alloc w4 (.cells #[.int .i64 (hiOf t 4 big * 4294967296 + hiOf t 8 big), (.string ((⟨t.toArray⟩ : ByteArray).extract 20 (q + 20)))] 55) none) (by simp)
              have hG := grownBy_trans (grownBy_trans z2 hg) (World.grownBy_alloc w4 (.cells #[.int .i64 (hiOf t 4 big * 4294967296 + hiOf t 8 big), (.string ((⟨t.toArray⟩ : ByteArray).extract 20 (q + 20)))] 55) none)
              have hEN := q7
              clear q0 q1 q2 q3 q5 q6 q7 r0 r1 r2 r3 hg hR0
              generalize w4.alloc (.cells #[.int .i64 (hiOf t 4 big * 4294967296 + hiOf t 8 big), (.string ((⟨t.toArray⟩ : ByteArray).extract 20 (q + 20)))] 55) = W at *
              generalize w4.heap.size = E at *
              have HF := Lib.hid (And.intro (show timeOf t 4 big = hiOf t 4 big * 4294967296 + hiOf t 8 big from rfl) (And.intro b1 (And.intro b4 hc3)))
              rw [HM.out] at hT
              rw [HM.out]
              have HH := Lib.hid (And.intro hT (And.intro hR hG))
              have c0 := hT.a
              have c1 := hT.b
              have e0 := hR.a
              have e1 := hR.b
              have ef := hR.f
              have eg := hR.g
              clear hT hR hG y0 y1 v0 v1 b3 b1 hj1 hj2 hj3 hj4 hj5 hj6 hj7 hj8 b4 z2 a0 a1 a2 a3 hn3 hn4
              generalize hiOf t 4 big * 4294967296 + hiOf t 8 big = K at *
              generalize hm : (t.drop 20).take q = m at *
              have HMM := Lib.hid hm
              have hml : m.length ≤ 1000000000000 := by rw [← hm]; simp; omega
              clear hm
              go_wp2_with fail
              go_region_held3 (fun w' => w'.cell? ⟨E, 0, none⟩ = some (.int .i64 K) ∧ w'.cell? ⟨E, 1, none⟩ = some (.string ⟨m.toArray⟩) ∧ (w'.cell? ⟨w.heap.size, 0, none⟩).isSome = true ∧ (w'.cell? ⟨w.heap.size, 1, none⟩).isSome = true ∧ w'.frozen? ⟨w.heap.size, 0, none⟩ = false ∧ w'.frozen? ⟨w.heap.size, 1, none⟩ = false) ((refine ⟨by first | assumption | (simp [*]; done) | (go_simp; done), by first | assumption | (simp [*]; done) | (go_simp; done), by first | (simp [*]; done) | (go_simp; done), by first | (simp [*]; done) | (go_simp; done), by first | assumption | (simp [*]; done) | (go_simp; done), by first | assumption | (simp [*]; done) | (go_simp; done)⟩))
                (first | (go_at_call 39; refine (packet_ok K m _ hml).mono ?_; rintro e w5 ⟨rfl, hg⟩; have T5 := (HH.out.1.kept (grownBy_drew (r := none)) (by simp)).kept hg (by simp); have E5 := (HH.out.2.1.kept (grownBy_drew (r := none)) (by simp)).kept hg (by simp); have t0 := T5.a; have t1 := T5.b; have q0 := E5.a; have q1 := E5.b; have q2 := E5.f; have q3 := E5.g))
              have hW : w5.grownBy ((w5.setCell ⟨w.heap.size, 0, none⟩ (.int .i64 K)).setCell ⟨w.heap.size, 1, none⟩ (.string ⟨m.toArray⟩)) (some w.heap.size) := grownBy_trans (grownBy_set _ _ _ _) (grownBy_set _ _ _ _)
              have HZ := Lib.hid (grownBy_new (grownBy_trans (grownBy_trans HH.out.2.2 grownBy_drew) hg) hW (Nat.le_refl _))
              clear hW
              go_wp2_with fail
              exact bodyPost_ret (v := .tuple #[.agg #[.int .i64 K, .string ⟨m.toArray⟩], .bool (decide (pkOk (K, m)))]) (by simp [results, Try.results37, go_sem, q0, q1]) rfl ⟨K, m, decide (pkOk (K, m)), rfl, HZ.out, HC.out.1 K m HF.out.1 (by first | exact HMM.out | rfl) HF.out.2, HC.out.2 K m HF.out.1 (by first | exact HMM.out | rfl)⟩
            · have k0 := r0 (by go_simp)
              have k1 := r1 (by go_simp)
              have k2 := r2 (by go_simp) (by go_simp)
              have k3 := r3 (by go_simp) (by go_simp)
              have hT : Two ((w4.setCell ⟨w3.heap.size, 0, none⟩ (.int .i64 (hiOf t 4 big * 4294967296 + hiOf t 8 big))).setCell ⟨w3.heap.size, 1, none⟩ (.string ((⟨t.toArray⟩ : ByteArray).extract 20 (q + 20)))) w3.heap.size (.int .i64 (hiOf t 4 big * 4294967296 + hiOf t 8 big)) (.string ((⟨t.toArray⟩ : ByteArray).extract 20 (q + 20))) := ⟨by go_simp, by go_simp, by go_simp, by go_simp⟩
              have hR0 : Two w4 w.heap.size (.int .i64 0) (.string ⟨#[]⟩) := ⟨q0, q1, q2, q3⟩
              have hS : w4.grownBy ((w4.setCell ⟨w3.heap.size, 0, none⟩ (.int .i64 (hiOf t 4 big * 4294967296 + hiOf t 8 big))).setCell ⟨w3.heap.size, 1, none⟩ (.string ((⟨t.toArray⟩ : ByteArray).extract 20 (q + 20)))) (some w3.heap.size) := grownBy_trans (grownBy_set _ _ _ _) (grownBy_set _ _ _ _)
              have hR := hR0.kept hS (by simpa using hn3)
              have hG := grownBy_new (grownBy_trans z2 (grownBy_trans (World.grownBy_alloc _ _ none) hg)) hS (z2.size)
              have hEN := hn4
              clear q0 q1 q2 q3 q5 q6 q7 r0 r1 r2 r3 k0 k1 k2 k3 hg hR0 hS
              generalize (w4.setCell ⟨w3.heap.size, 0, none⟩ (.int .i64 (hiOf t 4 big * 4294967296 + hiOf t 8 big))).setCell ⟨w3.heap.size, 1, none⟩ (.string ((⟨t.toArray⟩ : ByteArray).extract 20 (q + 20))) = W at *
              generalize w3.heap.size = E at *
              have HF := Lib.hid (And.intro (show timeOf t 4 big = hiOf t 4 big * 4294967296 + hiOf t 8 big from rfl) (And.intro b1 (And.intro b4 hc3)))
              rw [HM.out] at hT
              rw [HM.out]
              have HH := Lib.hid (And.intro hT (And.intro hR hG))
              have c0 := hT.a
              have c1 := hT.b
              have e0 := hR.a
              have e1 := hR.b
              have ef := hR.f
              have eg := hR.g
              clear hT hR hG y0 y1 v0 v1 b3 b1 hj1 hj2 hj3 hj4 hj5 hj6 hj7 hj8 b4 z2 a0 a1 a2 a3 hn3 hn4
              generalize hiOf t 4 big * 4294967296 + hiOf t 8 big = K at *
              generalize hm : (t.drop 20).take q = m at *
              have HMM := Lib.hid hm
              have hml : m.length ≤ 1000000000000 := by rw [← hm]; simp; omega
              clear hm
              go_wp2_with fail
              go_region_held3 (fun w' => w'.cell? ⟨E, 0, none⟩ = some (.int .i64 K) ∧ w'.cell? ⟨E, 1, none⟩ = some (.string ⟨m.toArray⟩) ∧ (w'.cell? ⟨w.heap.size, 0, none⟩).isSome = true ∧ (w'.cell? ⟨w.heap.size, 1, none⟩).isSome = true ∧ w'.frozen? ⟨w.heap.size, 0, none⟩ = false ∧ w'.frozen? ⟨w.heap.size, 1, none⟩ = false) ((refine ⟨by first | assumption | (simp [*]; done) | (go_simp; done), by first | assumption | (simp [*]; done) | (go_simp; done), by first | (simp [*]; done) | (go_simp; done), by first | (simp [*]; done) | (go_simp; done), by first | assumption | (simp [*]; done) | (go_simp; done), by first | assumption | (simp [*]; done) | (go_simp; done)⟩))
                (first | (go_at_call 39; refine (packet_ok K m _ hml).mono ?_; rintro e w5 ⟨rfl, hg⟩; have T5 := (HH.out.1.kept (grownBy_drew (r := none)) (by simp)).kept hg (by simp); have E5 := (HH.out.2.1.kept (grownBy_drew (r := none)) (by simp)).kept hg (by simp); have t0 := T5.a; have t1 := T5.b; have q0 := E5.a; have q1 := E5.b; have q2 := E5.f; have q3 := E5.g))
              have hW : w5.grownBy ((w5.setCell ⟨w.heap.size, 0, none⟩ (.int .i64 K)).setCell ⟨w.heap.size, 1, none⟩ (.string ⟨m.toArray⟩)) (some w.heap.size) := grownBy_trans (grownBy_set _ _ _ _) (grownBy_set _ _ _ _)
              have HZ := Lib.hid (grownBy_new (grownBy_trans (grownBy_trans HH.out.2.2 grownBy_drew) hg) hW (Nat.le_refl _))
              clear hW
              go_wp2_with fail
              exact bodyPost_ret (v := .tuple #[.agg #[.int .i64 K, .string ⟨m.toArray⟩], .bool (decide (pkOk (K, m)))]) (by simp [results, Try.results37, go_sem, q0, q1]) rfl ⟨K, m, decide (pkOk (K, m)), rfl, HZ.out, HC.out.1 K m HF.out.1 (by first | exact HMM.out | rfl) HF.out.2, HC.out.2 K m HF.out.1 (by first | exact HMM.out | rfl)⟩
        · have HN := Lib.hid (fun q' hq' => by have := HK.out q' hq'; omega : ∀ q', ¬ PkR t big q')
          generalize hiOf t 4 big = h4 at *
          go_wp2_with fail
          have hW : w2.grownBy ((w2.setCell ⟨w.heap.size, 0, none⟩ (.int .i64 0)).setCell ⟨w.heap.size, 1, none⟩ (.string ⟨#[]⟩)) (some w.heap.size) := grownBy_trans (grownBy_set _ _ _ _) (grownBy_set _ _ _ _)
          exact bodyPost_ret (v := .tuple #[.agg #[.int .i64 0, .string ⟨#[]⟩], .bool false]) (by simp [results, Try.results37, go_sem, z0, z1]) rfl ⟨0, [], false, rfl, grownBy_new H2.out hW (Nat.le_refl _), fun h => by simp at h, fun _ => HN.out⟩
      · have HN := Lib.hid (fun q' hq' => by have := HK.out q' hq'; have := HQ.out; omega : ∀ q', ¬ PkR t big q')
        go_wp2_with fail
        have hW : w2.grownBy ((w2.setCell ⟨w.heap.size, 0, none⟩ (.int .i64 0)).setCell ⟨w.heap.size, 1, none⟩ (.string ⟨#[]⟩)) (some w.heap.size) := grownBy_trans (grownBy_set _ _ _ _) (grownBy_set _ _ _ _)
        exact bodyPost_ret (v := .tuple #[.agg #[.int .i64 0, .string ⟨#[]⟩], .bool false]) (by simp [results, Try.results37, go_sem, z0, z1]) rfl ⟨0, [], false, rfl, grownBy_new H2.out hW (Nat.le_refl _), fun h => by simp at h, fun _ => HN.out⟩
    · have HN := Lib.hid (fun q' hq' => by have := HK.out q' hq'; have := HQ.out; omega : ∀ q', ¬ PkR t big q')
      go_wp2_with fail
      have hW : w2.grownBy ((w2.setCell ⟨w.heap.size, 0, none⟩ (.int .i64 0)).setCell ⟨w.heap.size, 1, none⟩ (.string ⟨#[]⟩)) (some w.heap.size) := grownBy_trans (grownBy_set _ _ _ _) (grownBy_set _ _ _ _)
      exact bodyPost_ret (v := .tuple #[.agg #[.int .i64 0, .string ⟨#[]⟩], .bool false]) (by simp [results, Try.results37, go_sem, z0, z1]) rfl ⟨0, [], false, rfl, grownBy_new H2.out hW (Nat.le_refl _), fun h => by simp at h, fun _ => HN.out⟩

end Go.Proofs.Ytbhbbmocioefnaa
