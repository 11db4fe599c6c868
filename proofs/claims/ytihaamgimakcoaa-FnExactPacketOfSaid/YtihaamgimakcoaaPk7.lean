/- Flows: a packet of a segment, the model's. -/
import Derived.Test.YtihaamgimakcoaaPk6
namespace Go.Proofs.Ytihaamgimakcoaa
open Go.RowKit

theorem tcp_short {a b f o s k g n : Int} {l : List Rg} {d : List UInt8} (h : tcpG a b f o s k g n l d) : (tcpL a b f o s k g n l d).length ≤ 362 := by
  have h1 := tcpHd_len f o s k g n (aheadOf l) (tcpSm a b f o s k g n l d)
  have h2 : (optL l).length ≤ 28 := by
    have h5 := optL_len l h.2.2.2
    have h6 : l.length ≤ 3 := h.2.2.2.1
    split at h5 <;> omega
  have h3 : d.length ≤ 200 := h.2.2.1.2.2.2.2.2.2.2.2.2.2.2.2
  unfold tcpL
  rw [if_pos h]
  unfold tcpT
  simp only [List.length_append]
  omega

set_option maxRecDepth 100000 in
set_option maxHeartbeats 4000000 in
theorem pk_six (tm a b f o s k g n : Int) (p : Option Addr) (c : Nat) (l : List Rg) (d : List UInt8) (w : World) (h : RgAt w p l) (hl : l.length ≤ maxLen) (hG : tcpG a b f o s k g n l d) : Calls Try.prog 30 #[.int .i64 tm, .int .i64 a, .int .i64 b, tcpV f o s k g n p c l d] w fun e w' => e = .returned (.agg #[.int .i64 tm, .string ⟨(pkD a b f o s k g n l d).toArray⟩]) ∧ w.grownBy w' none := by
  have hs1 : 0 ≤ s := hG.2.2.1.2.2.2.2.1
  have hs2 : s < 4294967296 := hG.2.2.1.2.2.2.2.2.1
  obtain ⟨⟨ha1, ha2⟩, ⟨hb1, hb2⟩, _⟩ := (And.intro hG.1 (And.intro hG.2.1 True.intro))
  have hlen := tcp_short hG
  have hts := fun W hh => tcp_spec a b f o s k g n p c l d W hh hl
  obtain ⟨T, hT⟩ : ∃ T, T = tcpL a b f o s k g n l d := ⟨_, rfl⟩
  unfold pkD
  rw [← hT] at hlen hts ⊢
  have HTS := Lib.hid hts
  have hok : ipOk a b 64 6 (s % 65536) T := ⟨ha1, ha2, hb1, hb2, by omega, by omega, by omega, by omega, by omega, by omega, hlen⟩
  have hip := fun W => ip_bytes4 a b 64 6 (s % 65536) T W hok
  obtain ⟨J, hJ⟩ : ∃ J, J = ipL a b 64 6 (s % 65536) T := ⟨_, rfl⟩
  rw [← hJ]
  have hJ2 : ipT a b 64 6 (s % 65536) T = J := by rw [hJ]; exact (if_pos hok).symm
  rw [hJ2] at hip
  have HIP := Lib.hid hip
  clear hts hip hJ hJ2 hok hlen hT hG hl
  have H0 := Lib.hid (And.intro ((Bx.new w 36 #[.int .i64 f, .int .i64 o, .int .i64 s, .int .i64 k, .int .i64 g, .int .i64 n, .slice p l.length c, .string ⟨d.toArray⟩]).alloc (.cells #[.int .i64 0, .string ⟨#[]⟩] 42)) (And.intro (show Bx _ (w.heap.size + 1) 42 #[.int .i64 0, .string ⟨#[]⟩] by have h := Bx.new (w.alloc (.cells #[.int .i64 f, .int .i64 o, .int .i64 s, .int .i64 k, .int .i64 g, .int .i64 n, .slice p l.length c, .string ⟨d.toArray⟩] 36)) 42 #[.int .i64 0, .string ⟨#[]⟩]; simpa using h) (And.intro (gA (World.grownBy_alloc w (.cells #[.int .i64 f, .int .i64 o, .int .i64 s, .int .i64 k, .int .i64 g, .int .i64 n, .slice p l.length c, .string ⟨d.toArray⟩] 36) none) (.cells #[.int .i64 0, .string ⟨#[]⟩] 42)) (h.kept (gA (World.grownBy_alloc w (.cells #[.int .i64 f, .int .i64 o, .int .i64 s, .int .i64 k, .int .i64 g, .int .i64 n, .slice p l.length c, .string ⟨d.toArray⟩] 36) none) (.cells #[.int .i64 0, .string ⟨#[]⟩] 42))))))
  clear h
  go_enter Try.func30, Try.ntmps30
  go_upto_region 1 with fail
  obtain ⟨w1, hw1⟩ : ∃ w1, w1 = (w.alloc (.cells #[.int .i64 f, .int .i64 o, .int .i64 s, .int .i64 k, .int .i64 g, .int .i64 n, .slice p l.length c, .string ⟨d.toArray⟩] 36)).alloc (.cells #[.int .i64 0, .string ⟨#[]⟩] 42) := ⟨_, rfl⟩
  rw [← hw1] at H0 ⊢
  clear hw1
  have sm : s.tmod 65536 = s % 65536 := Int.tmod_eq_emod_of_nonneg (by omega)
  have sw : IntKind.i64.wrap (s % 65536) = s % 65536 := IntWalk.i64_in _ (by omega)
  have sx : IntKind.i64.wrap (s.tmod 65536) = s % 65536 := by rw [sm]; exact sw
  go_cut [9] (fun s9 wx => ∃ B : Nat, s9 = .pointer (some ⟨B, 0, none⟩) ∧ Bx wx B 32 #[.int .i64 a, .int .i64 b, .int .i64 64, .int .i64 6, .int .i64 (s % 65536), .string ⟨(T : List UInt8).toArray⟩] ∧ w1.grownBy wx none)
  case first =>
    have t0 := H0.out.1.c 0 (x := .int .i64 f) rfl
    have t1 := H0.out.1.c 1 (x := .int .i64 o) rfl
    have t2 := H0.out.1.c 2 (x := .int .i64 s) rfl
    have t3 := H0.out.1.c 3 (x := .int .i64 k) rfl
    have t4 := H0.out.1.c 4 (x := .int .i64 g) rfl
    have t5 := H0.out.1.c 5 (x := .int .i64 n) rfl
    have t6 := H0.out.1.c 6 (x := .slice p l.length c) rfl
    have t7 := H0.out.1.c 7 (x := .string ⟨d.toArray⟩) rfl
    have lt := H0.out.1.lt
    go_region_with (first | (go_at_call 54; refine (HTS.out _ (H0.out.2.2.2.kept (by first | with_reducible exact World.grownBy.refl _ _ | with_reducible exact grownBy_drew | with_reducible exact World.grownBy_alloc _ _ none | with_reducible exact grownBy_trans grownBy_drew (World.grownBy_alloc _ _ none) | with_reducible exact grownBy_trans (World.grownBy_alloc _ _ none) grownBy_drew))).mono ?_; rintro e w5 ⟨rfl, hg⟩; have G2 := Lib.hid (show w1.grownBy w5 none from (by first | with_reducible exact hg | with_reducible exact grownBy_trans grownBy_drew hg | with_reducible exact grownBy_trans (World.grownBy_alloc _ _ _) hg | with_reducible exact grownBy_trans grownBy_drew (grownBy_trans (World.grownBy_alloc _ _ _) hg) | with_reducible exact grownBy_trans (World.grownBy_alloc _ _ _) (grownBy_trans grownBy_drew hg))); (first | have vc := Lib.hid ((Bx.new _ 32 #[.int .i64 0, .int .i64 0, .int .i64 0, .int .i64 0, .int .i64 0, .string ⟨#[]⟩]).keep hg) | have vc := Lib.hid (((Bx.new _ 32 #[.int .i64 0, .int .i64 0, .int .i64 0, .int .i64 0, .int .i64 0, .string ⟨#[]⟩]).keep (grownBy_drew (r := none))).keep hg) | skip); clear hg; have t0 := ((H0.out.1).keep G2.out).c 0 (x := .int .i64 f) rfl; have t1 := ((H0.out.1).keep G2.out).c 1 (x := .int .i64 o) rfl; have t2 := ((H0.out.1).keep G2.out).c 2 (x := .int .i64 s) rfl; have t3 := ((H0.out.1).keep G2.out).c 3 (x := .int .i64 k) rfl; have t4 := ((H0.out.1).keep G2.out).c 4 (x := .int .i64 g) rfl; have t5 := ((H0.out.1).keep G2.out).c 5 (x := .int .i64 n) rfl; have t6 := ((H0.out.1).keep G2.out).c 6 (x := .slice p l.length c) rfl; have t7 := ((H0.out.1).keep G2.out).c 7 (x := .string ⟨d.toArray⟩) rfl; have lt := ((H0.out.1).keep G2.out).lt; try (have q0 := vc.out.c 0 (x := .int .i64 0) rfl; have q1 := vc.out.c 1 (x := .int .i64 0) rfl; have q2 := vc.out.c 2 (x := .int .i64 0) rfl; have q3 := vc.out.c 3 (x := .int .i64 0) rfl; have q4 := vc.out.c 4 (x := .int .i64 0) rfl; have q5 := vc.out.c 5 (x := .string ⟨#[]⟩) rfl; have qf0 := vc.out.f 0; have qf1 := vc.out.f 1; have qf2 := vc.out.f 2; have qf3 := vc.out.f 3; have qf4 := vc.out.f 4; have qf5 := vc.out.f 5)))
    all_goals
      go_wp2_with fail
      go_meet
      have G5 := G2.out
      first
        | exact ⟨_, rfl, by with_reducible exact Bx.new _ _ _, by with_reducible exact grownBy_trans G5 (World.grownBy_alloc _ _ none)⟩
        | exact ⟨_, rfl, by with_reducible exact sets6 vc.out _ _ _ _ _ _, by with_reducible exact gsets6 G5 (Nat.le_refl _)⟩
        | exact ⟨_, rfl, by with_reducible exact sets6 vc.out _ _ _ _ _ _, by with_reducible exact gsets6 G5 (by have := G2.out.size; omega)⟩
  case rest =>
    obtain ⟨P, rfl, hbx, hg⟩ := hcut
    have H3 := Lib.hid (And.intro hbx (And.intro (H0.out.2.1.keep hg) (grownBy_trans H0.out.2.2.1 hg)))
    clear hg hbx sm sw sx
    generalize hwc : wc = w3 at *
    clear hwc
    go_upto_region 2 with fail
    go_cut [10] (fun s10 wx => ∃ B : Nat, s10 = .pointer (some ⟨B, 0, none⟩) ∧ Bx wx B 65 #[.string ⟨(hostL b).toArray⟩, .string ⟨(hostL a).toArray⟩, .int .i64 (-1), .int .i64 2048, .string ⟨(J : List UInt8).toArray⟩] ∧ w3.grownBy wx none)
    case first =>
      have u0 := H3.out.1.c 0 (x := .int .i64 a) rfl
      have u1 := H3.out.1.c 1 (x := .int .i64 b) rfl
      have u2 := H3.out.1.c 2 (x := .int .i64 64) rfl
      have u3 := H3.out.1.c 3 (x := .int .i64 6) rfl
      have u4 := H3.out.1.c 4 (x := .int .i64 (s % 65536)) rfl
      have u5 := H3.out.1.c 5 (x := .string ⟨(T : List UInt8).toArray⟩) rfl
      have lu := (H3.out.1).lt
      go_region_with (first | (go_at_call 55; refine (mac_any b _ hb1 hb2).mono ?_; rintro e w5 ⟨rfl, hg⟩; have G2 := Lib.hid (show w3.grownBy w5 none from (by first | with_reducible exact hg | with_reducible exact grownBy_trans grownBy_drew hg | with_reducible exact grownBy_trans (World.grownBy_alloc _ _ _) hg | with_reducible exact grownBy_trans grownBy_drew (grownBy_trans (World.grownBy_alloc _ _ _) hg) | with_reducible exact grownBy_trans (World.grownBy_alloc _ _ _) (grownBy_trans grownBy_drew hg))); (first | have va := Lib.hid ((Bx.new _ 65 #[.string ⟨#[]⟩, .string ⟨#[]⟩, .int .i64 0, .int .i64 0, .string ⟨#[]⟩]).keep hg) | have va := Lib.hid (((Bx.new _ 65 #[.string ⟨#[]⟩, .string ⟨#[]⟩, .int .i64 0, .int .i64 0, .string ⟨#[]⟩]).keep (grownBy_drew (r := none))).keep hg) | skip); clear hg; have u0 := ((H3.out.1).keep G2.out).c 0 (x := .int .i64 a) rfl; have u1 := ((H3.out.1).keep G2.out).c 1 (x := .int .i64 b) rfl; have u2 := ((H3.out.1).keep G2.out).c 2 (x := .int .i64 64) rfl; have u3 := ((H3.out.1).keep G2.out).c 3 (x := .int .i64 6) rfl; have u4 := ((H3.out.1).keep G2.out).c 4 (x := .int .i64 (s % 65536)) rfl; have u5 := ((H3.out.1).keep G2.out).c 5 (x := .string ⟨(T : List UInt8).toArray⟩) rfl; have lu := ((H3.out.1).keep G2.out).lt) | (go_at_call 55; refine (mac_any a _ ha1 ha2).mono ?_; rintro e w6 ⟨rfl, hg⟩; have G3 := Lib.hid (show w5.grownBy w6 none from (by first | with_reducible exact hg | with_reducible exact grownBy_trans grownBy_drew hg | with_reducible exact grownBy_trans (World.grownBy_alloc _ _ _) hg | with_reducible exact grownBy_trans grownBy_drew (grownBy_trans (World.grownBy_alloc _ _ _) hg) | with_reducible exact grownBy_trans (World.grownBy_alloc _ _ _) (grownBy_trans grownBy_drew hg))); (first | have vb := Lib.hid ((Bx.new _ 65 #[.string ⟨#[]⟩, .string ⟨#[]⟩, .int .i64 0, .int .i64 0, .string ⟨#[]⟩]).keep hg) | have vb := Lib.hid (((Bx.new _ 65 #[.string ⟨#[]⟩, .string ⟨#[]⟩, .int .i64 0, .int .i64 0, .string ⟨#[]⟩]).keep (grownBy_drew (r := none))).keep hg) | have vb := Lib.hid (va.out.keep hg) | skip); clear hg; have u0 := ((H3.out.1).keep (grownBy_trans G2.out G3.out)).c 0 (x := .int .i64 a) rfl; have u1 := ((H3.out.1).keep (grownBy_trans G2.out G3.out)).c 1 (x := .int .i64 b) rfl; have u2 := ((H3.out.1).keep (grownBy_trans G2.out G3.out)).c 2 (x := .int .i64 64) rfl; have u3 := ((H3.out.1).keep (grownBy_trans G2.out G3.out)).c 3 (x := .int .i64 6) rfl; have u4 := ((H3.out.1).keep (grownBy_trans G2.out G3.out)).c 4 (x := .int .i64 (s % 65536)) rfl; have u5 := ((H3.out.1).keep (grownBy_trans G2.out G3.out)).c 5 (x := .string ⟨(T : List UInt8).toArray⟩) rfl; have lu := ((H3.out.1).keep (grownBy_trans G2.out G3.out)).lt) | (go_at_call 56; refine (HIP.out _).mono ?_; rintro e w7 ⟨rfl, hg⟩; have G4 := Lib.hid (show w6.grownBy w7 none from (by first | with_reducible exact hg | with_reducible exact grownBy_trans grownBy_drew hg | with_reducible exact grownBy_trans (World.grownBy_alloc _ _ _) hg | with_reducible exact grownBy_trans grownBy_drew (grownBy_trans (World.grownBy_alloc _ _ _) hg) | with_reducible exact grownBy_trans (World.grownBy_alloc _ _ _) (grownBy_trans grownBy_drew hg))); (first | have vc := Lib.hid ((Bx.new _ 65 #[.string ⟨#[]⟩, .string ⟨#[]⟩, .int .i64 0, .int .i64 0, .string ⟨#[]⟩]).keep hg) | have vc := Lib.hid (((Bx.new _ 65 #[.string ⟨#[]⟩, .string ⟨#[]⟩, .int .i64 0, .int .i64 0, .string ⟨#[]⟩]).keep (grownBy_drew (r := none))).keep hg) | have vc := Lib.hid (vb.out.keep hg) | skip); clear hg; try (have q0 := vc.out.c 0 (x := .string ⟨#[]⟩) rfl; have q1 := vc.out.c 1 (x := .string ⟨#[]⟩) rfl; have q2 := vc.out.c 2 (x := .int .i64 0) rfl; have q3 := vc.out.c 3 (x := .int .i64 0) rfl; have q4 := vc.out.c 4 (x := .string ⟨#[]⟩) rfl; have qf0 := vc.out.f 0; have qf1 := vc.out.f 1; have qf2 := vc.out.f 2; have qf3 := vc.out.f 3; have qf4 := vc.out.f 4)))
      all_goals
        go_wp2_with fail
        go_meet
        have G5 := grownBy_trans (grownBy_trans G2.out G3.out) G4.out
        first
          | exact ⟨_, rfl, by with_reducible exact Bx.new _ _ _, by with_reducible exact grownBy_trans G5 (World.grownBy_alloc _ _ none)⟩
          | exact ⟨_, rfl, by with_reducible exact sets5 vc.out _ _ _ _ _, by with_reducible exact gsets5 G5 (Nat.le_of_lt lu)⟩
          | exact ⟨_, rfl, by with_reducible exact sets5 vc.out _ _ _ _ _, by with_reducible exact gsets5 G5 (by have := G2.out.size; omega)⟩
          | exact ⟨_, rfl, by with_reducible exact sets5 vc.out _ _ _ _ _, by with_reducible exact gsets5 G5 (by have := G2.out.size; have := G3.out.size; omega)⟩
          | exact ⟨_, rfl, by with_reducible exact sets5 vc.out _ _ _ _ _, by with_reducible exact gsets5 G5 (by have := G2.out.size; have := G3.out.size; have := G4.out.size; omega)⟩
          | exact ⟨_, rfl, by with_reducible exact sets5 vc.out _ _ _ _ _, by with_reducible exact gsets5 G5 (Nat.le_refl _)⟩
    case rest =>
      obtain ⟨B, rfl, hbx, hg⟩ := hcut
      have H5 := Lib.hid (And.intro (H3.out.2.1.keep hg) (And.intro hbx (grownBy_trans H3.out.2.2 hg)))
      clear hg hbx
      generalize hwc : wc = w8 at *
      clear hwc
      have v0 := H5.out.2.1.c 0 (x := .string ⟨(hostL b).toArray⟩) rfl
      have v1 := H5.out.2.1.c 1 (x := .string ⟨(hostL a).toArray⟩) rfl
      have v2 := H5.out.2.1.c 2 (x := .int .i64 (-1)) rfl
      have v3 := H5.out.2.1.c 3 (x := .int .i64 2048) rfl
      have v4 := H5.out.2.1.c 4 (x := .string ⟨(J : List UInt8).toArray⟩) rfl
      have lv := H5.out.2.1.lt
      go_wp2_with fail
      refine (frame_spec (hostL b) (hostL a) (-1) 2048 J _).mono ?_
      rintro e w9 ⟨rfl, hg⟩
      have HG := Lib.hid (grownBy_trans H5.out.2.2 hg)
      have HR := Lib.hid (H5.out.1.keep hg)
      clear hg lv v0 v1 v2 v3 v4
      have r0 := HR.out.c 0 (x := .int .i64 0) rfl
      have r1 := HR.out.c 1 (x := .string ⟨#[]⟩) rfl
      have z0 := HR.out.f 0
      have z1 := HR.out.f 1
      have lr := HR.out.lt
      go_wp2_with fail
      exact bodyPost_ret (v := .agg #[.int .i64 tm, .string ⟨(frameL (hostL b) (hostL a) (-1) 2048 J).toArray⟩]) (by simp [results, Try.results30, go_sem, r0, r1]) rfl ⟨rfl, by repeat (first | with_reducible refine gS ?_ (by first | omega | (simp; omega)) _ _ | with_reducible refine gA ?_ _ | with_reducible refine gD ?_ _ | with_reducible refine gd ?_ | with_reducible exact HG.out | with_reducible exact World.grownBy.refl _ _)⟩

set_option maxRecDepth 100000 in
set_option maxHeartbeats 4000000 in
theorem pk_spec (tm a b f o s k g n : Int) (p : Option Addr) (c : Nat) (l : List Rg) (d : List UInt8) (w : World) (h : RgAt w p l) (hl : l.length ≤ maxLen) : Calls Try.prog 14 #[.int .i64 tm, .int .i64 a, .int .i64 b, tcpV f o s k g n p c l d] w fun e w' => e = .returned (pkV tm a b f o s k g n l d) ∧ w.grownBy w' none := by
  unfold pkV pkB
  cases g1 : inB tm 0 1000000000000
  · simp only [Bool.false_and, Bool.false_eq_true, if_false]
    have G1 := Lib.hid g1
    clear g1 h
    go_enter Try.func14, Try.ntmps14
    go_wp2_with (first | (go_at_call 27; refine (in_any _ _ _ _).mono ?_; rintro e w2 ⟨rfl, rfl⟩; rw [G1.out]))
    exact bodyPost_ret (v := .tuple #[.agg #[.int .i64 0, .string ⟨#[]⟩], .bool false]) (by simp [results, Try.results14, go_sem]) rfl ⟨rfl, by repeat (first | with_reducible refine gS ?_ (by first | omega | (simp; omega)) _ _ | with_reducible refine gA ?_ _ | with_reducible refine gD ?_ _ | with_reducible refine gd ?_ | with_reducible exact HG.out | with_reducible exact World.grownBy.refl _ _)⟩
  · have G1 := Lib.hid g1
    clear g1
    cases g2 : goesB a
    · rw [decide_eq_false (fun hG => goes_not g2 hG.1)]
      simp only [Bool.and_false, Bool.false_eq_true, if_false]
      have G2 := Lib.hid g2
      clear g2 h
      go_enter Try.func14, Try.ntmps14
      go_wp2_with (first | (go_at_call 27; refine (in_any _ _ _ _).mono ?_; rintro e w2 ⟨rfl, rfl⟩; rw [G1.out]) | (go_at_call 28; refine (seq_any _ _).mono ?_; rintro e w2 ⟨rfl, rfl⟩; first | rw [G2.out]))
      exact bodyPost_ret (v := .tuple #[.agg #[.int .i64 0, .string ⟨#[]⟩], .bool false]) (by simp [results, Try.results14, go_sem]) rfl ⟨rfl, by repeat (first | with_reducible refine gS ?_ (by first | omega | (simp; omega)) _ _ | with_reducible refine gA ?_ _ | with_reducible refine gD ?_ _ | with_reducible refine gd ?_ | with_reducible exact HG.out | with_reducible exact World.grownBy.refl _ _)⟩
    · have ha := goes_of g2
      have G2 := Lib.hid g2
      clear g2
      cases g3 : goesB b
      · rw [decide_eq_false (fun hG => goes_not g3 hG.2.1)]
        simp only [Bool.and_false, Bool.false_eq_true, if_false]
        have G3 := Lib.hid g3
        clear g3 h
        go_enter Try.func14, Try.ntmps14
        go_wp2_with (first | (go_at_call 27; refine (in_any _ _ _ _).mono ?_; rintro e w2 ⟨rfl, rfl⟩; rw [G1.out]) | (go_at_call 28; refine (seq_any _ _).mono ?_; rintro e w2 ⟨rfl, rfl⟩; first | rw [G2.out] | rw [G3.out]))
        exact bodyPost_ret (v := .tuple #[.agg #[.int .i64 0, .string ⟨#[]⟩], .bool false]) (by simp [results, Try.results14, go_sem]) rfl ⟨rfl, by repeat (first | with_reducible refine gS ?_ (by first | omega | (simp; omega)) _ _ | with_reducible refine gA ?_ _ | with_reducible refine gD ?_ _ | with_reducible refine gd ?_ | with_reducible exact HG.out | with_reducible exact World.grownBy.refl _ _)⟩
      · have hb := goes_of g3
        have G3 := Lib.hid g3
        clear g3
        by_cases hT : tcpOk f o s k g n l d
        · have hG : tcpG a b f o s k g n l d := ⟨ha, hb, hT⟩
          rw [decide_eq_true hG]
          simp only [Bool.and_self, if_true]
          have HD := Lib.hid (decide_eq_true hT)
          have HGG := Lib.hid hG
          clear hT hG ha hb
          have H0 := Lib.hid (And.intro ((Bx.new w 36 #[.int .i64 f, .int .i64 o, .int .i64 s, .int .i64 k, .int .i64 g, .int .i64 n, .slice p l.length c, .string ⟨d.toArray⟩]).alloc (.cells #[.int .i64 0, .string ⟨#[]⟩] 42)) (And.intro (show Bx _ (w.heap.size + 1) 42 #[.int .i64 0, .string ⟨#[]⟩] by have h := Bx.new (w.alloc (.cells #[.int .i64 f, .int .i64 o, .int .i64 s, .int .i64 k, .int .i64 g, .int .i64 n, .slice p l.length c, .string ⟨d.toArray⟩] 36)) 42 #[.int .i64 0, .string ⟨#[]⟩]; simpa using h) (And.intro (gA (World.grownBy_alloc w (.cells #[.int .i64 f, .int .i64 o, .int .i64 s, .int .i64 k, .int .i64 g, .int .i64 n, .slice p l.length c, .string ⟨d.toArray⟩] 36) none) (.cells #[.int .i64 0, .string ⟨#[]⟩] 42)) (h.kept (gA (World.grownBy_alloc w (.cells #[.int .i64 f, .int .i64 o, .int .i64 s, .int .i64 k, .int .i64 g, .int .i64 n, .slice p l.length c, .string ⟨d.toArray⟩] 36) none) (.cells #[.int .i64 0, .string ⟨#[]⟩] 42))))))
          clear h
          go_enter Try.func14, Try.ntmps14
          go_wp2_with (first | (go_at_call 27; refine (in_any _ _ _ _).mono ?_; rintro e w2 ⟨rfl, rfl⟩; rw [G1.out]) | (go_at_call 28; refine (seq_any _ _).mono ?_; rintro e w2 ⟨rfl, rfl⟩; first | rw [G2.out] | rw [G3.out]))
          refine (tcp_ok_spec f o s k g n p c l d _ H0.out.2.2.2 hl).mono ?_
          rintro e w1 ⟨rfl, hg⟩
          have H1 := Lib.hid (And.intro (H0.out.1.keep hg) (And.intro (H0.out.2.1.keep hg) (And.intro (grownBy_trans H0.out.2.2.1 hg) (H0.out.2.2.2.kept hg))))
          clear hg
          rw [HD.out]
          have HG := Lib.hid H1.out.2.2.1
          have t0 := H1.out.1.c 0 (x := .int .i64 f) rfl
          have t1 := H1.out.1.c 1 (x := .int .i64 o) rfl
          have t2 := H1.out.1.c 2 (x := .int .i64 s) rfl
          have t3 := H1.out.1.c 3 (x := .int .i64 k) rfl
          have t4 := H1.out.1.c 4 (x := .int .i64 g) rfl
          have t5 := H1.out.1.c 5 (x := .int .i64 n) rfl
          have t6 := H1.out.1.c 6 (x := .slice p l.length c) rfl
          have t7 := H1.out.1.c 7 (x := .string ⟨d.toArray⟩) rfl
          have lt := H1.out.1.lt
          go_wp2_with fail
          refine (pk_six tm a b f o s k g n p c l d _ H1.out.2.2.2 hl HGG.out).mono ?_
          rintro e w3 ⟨rfl, hg⟩
          have HR := Lib.hid (H1.out.2.1.keep hg)
          have HG := Lib.hid (grownBy_trans H1.out.2.2.1 hg)
          clear hg lt t0 t1 t2 t3 t4 t5 t6 t7
          have r0 := HR.out.c 0 (x := .int .i64 0) rfl
          have r1 := HR.out.c 1 (x := .string ⟨#[]⟩) rfl
          have z0 := HR.out.f 0
          have z1 := HR.out.f 1
          have lr := HR.out.lt
          go_wp2_with fail
          exact bodyPost_ret (v := .tuple #[.agg #[.int .i64 tm, .string ⟨(pkD a b f o s k g n l d).toArray⟩], .bool true]) (by simp [results, Try.results14, go_sem, r0, r1]) rfl ⟨rfl, by repeat (first | with_reducible refine gS ?_ (by first | omega | (simp; omega)) _ _ | with_reducible refine gA ?_ _ | with_reducible refine gD ?_ _ | with_reducible refine gd ?_ | with_reducible exact HG.out | with_reducible exact World.grownBy.refl _ _)⟩
        · rw [decide_eq_false (fun hG => hT hG.2.2)]
          simp only [Bool.and_false, Bool.false_eq_true, if_false]
          have HD := Lib.hid (decide_eq_false hT)
          clear hT ha hb
          have H0 := Lib.hid (And.intro ((Bx.new w 36 #[.int .i64 f, .int .i64 o, .int .i64 s, .int .i64 k, .int .i64 g, .int .i64 n, .slice p l.length c, .string ⟨d.toArray⟩]).alloc (.cells #[.int .i64 0, .string ⟨#[]⟩] 42)) (And.intro (show Bx _ (w.heap.size + 1) 42 #[.int .i64 0, .string ⟨#[]⟩] by have h := Bx.new (w.alloc (.cells #[.int .i64 f, .int .i64 o, .int .i64 s, .int .i64 k, .int .i64 g, .int .i64 n, .slice p l.length c, .string ⟨d.toArray⟩] 36)) 42 #[.int .i64 0, .string ⟨#[]⟩]; simpa using h) (And.intro (gA (World.grownBy_alloc w (.cells #[.int .i64 f, .int .i64 o, .int .i64 s, .int .i64 k, .int .i64 g, .int .i64 n, .slice p l.length c, .string ⟨d.toArray⟩] 36) none) (.cells #[.int .i64 0, .string ⟨#[]⟩] 42)) (h.kept (gA (World.grownBy_alloc w (.cells #[.int .i64 f, .int .i64 o, .int .i64 s, .int .i64 k, .int .i64 g, .int .i64 n, .slice p l.length c, .string ⟨d.toArray⟩] 36) none) (.cells #[.int .i64 0, .string ⟨#[]⟩] 42))))))
          clear h
          go_enter Try.func14, Try.ntmps14
          go_wp2_with (first | (go_at_call 27; refine (in_any _ _ _ _).mono ?_; rintro e w2 ⟨rfl, rfl⟩; rw [G1.out]) | (go_at_call 28; refine (seq_any _ _).mono ?_; rintro e w2 ⟨rfl, rfl⟩; first | rw [G2.out] | rw [G3.out]))
          refine (tcp_ok_spec f o s k g n p c l d _ H0.out.2.2.2 hl).mono ?_
          rintro e w1 ⟨rfl, hg⟩
          have H1 := Lib.hid (And.intro (H0.out.1.keep hg) (And.intro (H0.out.2.1.keep hg) (And.intro (grownBy_trans H0.out.2.2.1 hg) (H0.out.2.2.2.kept hg))))
          clear hg
          rw [HD.out]
          have HG := Lib.hid H1.out.2.2.1
          have r0 := H1.out.2.1.c 0 (x := .int .i64 0) rfl
          have r1 := H1.out.2.1.c 1 (x := .string ⟨#[]⟩) rfl
          have z0 := H1.out.2.1.f 0
          have z1 := H1.out.2.1.f 1
          have lr := H1.out.2.1.lt
          go_wp2_with fail
          exact bodyPost_ret (v := .tuple #[.agg #[.int .i64 0, .string ⟨#[]⟩], .bool false]) (by simp [results, Try.results14, go_sem, r0, r1]) rfl ⟨rfl, by repeat (first | with_reducible refine gS ?_ (by first | omega | (simp; omega)) _ _ | with_reducible refine gA ?_ _ | with_reducible refine gD ?_ _ | with_reducible refine gd ?_ | with_reducible exact HG.out | with_reducible exact World.grownBy.refl _ _)⟩

end Go.Proofs.Ytihaamgimakcoaa
