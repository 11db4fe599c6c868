/- The model's reading of a trace. -/
import Derived.Test.YtbhbbmocioefnaaRdTrI
namespace Go.Proofs.Ytbhbbmocioefnaa
open Go.RowKit

theorem l2_yes (t : List UInt8) (big : Bool) (q : Nat) (w : World) (hR : Right t big q) : Calls Try.prog 36 #[.string ⟨t.toArray⟩, .bool big] w (ReadYes w t big q) :=
  spec_yes t big q w hR.size hR.here hR.four hR.most hR.same

def RsRel (w : World) (s : List UInt8) (big : Bool) (v i b : Value) (wr : World) : Prop :=
  ∃ (p f : Nat) (out : List Pk), i = .int .i64 (p : Nat) ∧ b = .bool (decide (p = 0)) ∧ w.grownBy wr none ∧ wr.ownsRow w.heap.size 55 2 v out.length (pksV out) ∧ readT s = trc s big f p out ∧ (0 < f ∧ s.length < f + p) ∧ out.length ≤ 60 ∧ p ≤ s.length + 1000

set_option maxRecDepth 100000 in
set_option maxHeartbeats 2000000 in
theorem read_spec1 (s : List UInt8) (big : Bool) (w : World) (h : 28 ≤ s.length ∧ s.length ≤ 40000) (hb : (numOf (markOf s) true == 439041101) = big) (hc : big = true ∨ (numOf (markOf s) false != 439041101) = false) (hT : readT s = trc s big (s.length + 1) 0 []) :
    Calls Try.prog 11 #[.string ⟨s.toArray⟩] w (RtPost w (readT s).1 (readT s).2) := by
  obtain ⟨i0, hi, hz0, hz1, hz2⟩ := info_of infoPk
  have HB := Lib.hid (And.intro hb (And.intro hc hT))
  have hi1 : 28 ≤ (s.length : Int) := by omega
  have hi2 : (s.length : Int) ≤ 40000 := by omega
  have hi3 : 12 ≤ (s.length : Int) := by omega
  have hm := mark_len s h.1
  have hx : (⟨s.toArray⟩ : ByteArray).extract 8 12 = ⟨(markOf s).toArray⟩ := extract_mid s 8 12 (by omega)
  clear hb hc hT
  suffices key : ∀ w1 : World, w.grownBy w1 none → RsRel w s big (.slice (some ⟨w1.heap.size, 0, none⟩) 0 0) (.int .i64 0) (.bool true) (w1.alloc (.cells #[] 55)) by
    have HKEY := Lib.hid key
    clear key
    cases big
    · go_enter Try.func11, Try.ntmps11
      go_wp2_with fail
      refine (get2_any (markOf s) true _ (by omega)).mono ?_
      rintro e w1 ⟨rfl, hg⟩
      have h1 := HB.out.1
      have H1 := Lib.hid hg
      clear hg
      go_wp2_with fail
      refine (get2_any (markOf s) false _ (by omega)).mono ?_
      rintro e w2 ⟨rfl, hg⟩
      have h2 : (numOf (markOf s) false != 439041101) = false := HB.out.2.1.resolve_left (by simp)
      have H2 := Lib.hid (grownBy_trans H1.out hg)
      clear hg
      go_wp2_with fail
      have HK := Lib.hid (HKEY.out _ H2.out)
      clear h1 h2
      go_loopw [5, 6, 7] (fun v i b wr => RsRel w s false v i b wr) (fun _ i _ _ => s.length - (intOf i).toNat)
      case atStart => exact HK.out
      case round =>
        obtain ⟨p, f, out, rfl, rfl, hg, hown, ht, ⟨hf0, hf⟩, ho, hpl⟩ := hrel
        obtain ⟨ao, cap, rfl⟩ : ∃ ao cap, u5 = .slice ao out.length cap := by
          rcases hown.2 with ⟨hv, h0⟩ | ⟨g, cap, cur, hv, _⟩
          · exact ⟨none, 0, by rw [hv, h0]⟩
          · exact ⟨_, _, hv⟩
        generalize hfb : decide (p = 0) = fb at *
        have HS := Lib.hid (And.intro hg (And.intro hown (And.intro ht hf)))
        clear hg hown ht
        by_cases hlt : p < s.length
        · obtain ⟨f, rfl⟩ : ∃ f', f = f' + 1 := ⟨f - 1, by omega⟩
          have hp1 : (p : Int) ≤ (s.length : Int) := by omega
          have hp2 : (p : Int) < (s.length : Int) := by omega
          have hxf := ext_from s p
          have HX := Lib.hid hxf
          clear hxf
          by_cases hR : ∃ q, Right (s.drop p) false q
          · obtain ⟨q, hR⟩ := hR
            have hqh := hR.here
            have hqm := hR.most
            have HR := Lib.hid (And.intro hR True.intro)
            clear hR
            have hdq : (s.drop p).length = s.length - p := by simp
            go_wp2_with fail
            rw [HX.out]
            refine (l2_yes (s.drop p) false q _ HR.out.1).mono ?_
            rintro e w8 ⟨rfl, hg⟩
            have H8 := Lib.hid (grownBy_trans HS.out.1 hg)
            have H8x := Lib.hid hg
            clear hg
            generalize hbd : ((s.drop p).drop 8).take q = t2 at *
            have HBD := Lib.hid hbd
            have hl2 : t2.length ≤ 800 := by rw [← hbd]; simp; omega
            clear hbd
            generalize hk : numOf ((s.drop p).take 4) false = k at *
            have HK := Lib.hid hk
            clear hk
            by_cases hkh : k = 168627466
            · by_cases hp0 : p = 0
              · have h6 : ¬ k = 6 := by omega
                obtain rfl : fb = true := by rw [← hfb]; exact decide_eq_true hp0
                have HPK := Lib.hid (And.intro (show (numOf ((s.drop p).take 4) false = 168627466) ↔ p = 0 by rw [HK.out]; exact ⟨fun _ => hp0, fun _ => hkh⟩) (show numOf ((s.drop p).take 4) false ≠ 6 by rw [HK.out]; exact h6))
                subst hkh
                clear hp0 h6 hfb
                cases hb4 : ((out.length : Int) == 60)
                all_goals
                  have HN := Lib.hid (HS.out.2.2.1.trans (trc_other s false f p q out hlt HR.out.1 HPK.out.1 HPK.out.2) : readT s = trc s false f (p + (q + 12)) out)
                  have hq12 : (p : Int) + ((q : Int) + 12) ≤ 1000000 := by omega
                  go_wp2_with fail
                  go_roundw
                  case rel => exact ⟨p + (q + 12), f, out, by go_num, by rw [show decide (p + (q + 12) = 0) = false from decide_eq_false (by omega)], grownBy_trans H8.out (World.grownBy_alloc _ _ none), (HS.out.2.1.kept H8x.out (by cases Value.ownBlock (.slice ao out.length cap) <;> simp)).alloc _, HN.out, ⟨by omega, by omega⟩, ho, by omega⟩
                  case measure => simp [intOf]; omega
              · obtain rfl : fb = false := by rw [← hfb]; exact decide_eq_false hp0
                have HPK := Lib.hid (show ¬ ((numOf ((s.drop p).take 4) false = 168627466) ↔ p = 0) by rw [HK.out]; exact fun hh => hp0 (hh.mp hkh))
                subst hkh
                clear hp0 hfb
                have HE := Lib.hid (HS.out.2.2.1.trans (trc_kind s false f p q out hlt HR.out.1 HPK.out) : readT s = ([], (p : Int)))
                go_wp2_with fail
                exact bodyPost_ret (v := .tuple #[.slice none 0 0, .int .i64 (p : Nat)]) (by simp [results, Try.results11, go_sem]) rfl ⟨.slice none 0 0, by rw [HE.out], grownBy_trans H8.out (World.grownBy_alloc _ _ none), by rw [HE.out]; exact World.ownsRow_nil _ _ _ _⟩
            · have hb2 : (k == 168627466) = false := by simpa using hkh
              by_cases hp0 : p = 0
              · obtain rfl : fb = true := by rw [← hfb]; exact decide_eq_true hp0
                have HPK := Lib.hid (show ¬ ((numOf ((s.drop p).take 4) false = 168627466) ↔ p = 0) by rw [HK.out]; exact fun hh => hkh (hh.mpr hp0))
                clear hp0 hfb
                have HE := Lib.hid (HS.out.2.2.1.trans (trc_kind s false f p q out hlt HR.out.1 HPK.out) : readT s = ([], (p : Int)))
                go_wp2_with fail
                exact bodyPost_ret (v := .tuple #[.slice none 0 0, .int .i64 (p : Nat)]) (by simp [results, Try.results11, go_sem]) rfl ⟨.slice none 0 0, by rw [HE.out], grownBy_trans H8.out (World.grownBy_alloc _ _ none), by rw [HE.out]; exact World.ownsRow_nil _ _ _ _⟩
              · obtain rfl : fb = false := by rw [← hfb]; exact decide_eq_false hp0
                have HPK := Lib.hid (show (numOf ((s.drop p).take 4) false = 168627466) ↔ p = 0 by rw [HK.out]; exact ⟨fun e => absurd e hkh, fun e => absurd e hp0⟩)
                clear hp0 hfb
                by_cases h6 : k = 6
                · have HP6 := Lib.hid (show numOf ((s.drop p).take 4) false = 6 by rw [HK.out]; exact h6)
                  subst h6
                  clear hkh hb2
                  by_cases h60 : out.length = 60
                  · have hb4 : ((out.length : Int) == 60) = true := by simp; omega
                    have HE := Lib.hid (HS.out.2.2.1.trans (trc_many s false f p q out hlt HR.out.1 HPK.out HP6.out h60) : readT s = ([], (p : Int)))
                    go_wp2_with fail
                    exact bodyPost_ret (v := .tuple #[.slice none 0 0, .int .i64 (p : Nat)]) (by simp [results, Try.results11, go_sem]) rfl ⟨.slice none 0 0, by rw [HE.out], grownBy_trans H8.out (World.grownBy_alloc _ _ none), by rw [HE.out]; exact World.ownsRow_nil _ _ _ _⟩
                  · have hb4 : ((out.length : Int) == 60) = false := by simp; omega
                    go_wp2_with fail
                    refine (body_spec t2 false _ (by omega)).mono ?_
                    rintro e w9 ⟨K, M, bb, rfl, hg, hyes, hno⟩
                    have H9 := Lib.hid (grownBy_trans H8.out (grownBy_trans (World.grownBy_alloc _ _ none) hg))
                    have hown9 := ((HS.out.2.1.kept H8x.out (by cases Value.ownBlock (.slice ao out.length cap) <;> simp)).alloc (.cells #[.int .i64 6, .string ⟨t2.toArray⟩] 34)).kept hg (by cases Value.ownBlock (.slice ao out.length cap) <;> simp)
                    have HO := Lib.hid (And.intro hown9 (And.intro hyes hno))
                    clear hg hown9 hyes hno
                    cases bb
                    · have HN2 := Lib.hid (show ∀ r, ¬ PkR (((s.drop p).drop 8).take q) false r by rw [HBD.out]; exact HO.out.2.2 rfl)
                      have HE := Lib.hid (HS.out.2.2.1.trans (trc_bad s false f p q out hlt HR.out.1 HPK.out HP6.out HN2.out) : readT s = ([], (p : Int)))
                      go_wp2_with fail
                      exact bodyPost_ret (v := .tuple #[.slice none 0 0, .int .i64 (p : Nat)]) (by simp [results, Try.results11, go_sem]) rfl ⟨.slice none 0 0, by rw [HE.out], grownBy_trans H9.out (World.grownBy_alloc _ _ none), by rw [HE.out]; exact World.ownsRow_nil _ _ _ _⟩
                    · have HN := Lib.hid (show readT s = trc s false f (p + (q + 12)) (out ++ [(K, M)]) by
                        obtain ⟨r, hr, hK, hM⟩ := HO.out.2.1 rfl
                        have hr' : PkR (((s.drop p).drop 8).take q) false r := by rw [HBD.out]; exact hr
                        have := HS.out.2.2.1.trans (trc_packet s false f p q r out hlt HR.out.1 HPK.out HP6.out hr' h60)
                        rw [HBD.out, ← hK, ← hM] at this
                        exact this)
                      have hq12 : (p : Int) + ((q : Int) + 12) ≤ 1000000 := by omega
                      go_wp2_with (at_builtin; refine wpList_append_own _ rfl _ _ 24 rfl w.heap.size 55 i0 _ 2 24 Try.underlying24 hi hz0 hz1 hz2 rfl (by decide) _ _ _ rfl ((HO.out.1.alloc _).alloc _) ⟨w9.heap.size + 1, 0, none⟩ 1 1 [.int .i64 K, .string ⟨M.toArray⟩] rfl rfl ?c1 ?c2 ?c3 ?c4 ?c5 ?_)
                      case c1 => exact cell_two_new (w9.alloc (.cells #[.int .i64 K, .string ⟨M.toArray⟩] 55)) _ _ _ _ (by simp)
                      case c2 => simp [Value.oneCell']
                      case c3 => unfold maxLen; omega
                      case c4 => omega
                      case c5 => exact Nat.le_trans H9.out.size (Nat.le_trans (World.grownBy_alloc _ _ none).size (World.grownBy_alloc _ _ none).size)
                      intro v' w10 hown1 hg1 _
                      have HW := Lib.hid (And.intro (grown_own (grownBy_trans H9.out (grownBy_trans (World.grownBy_alloc _ _ none) (World.grownBy_alloc _ _ none))) hg1 ((HO.out.1.alloc _).alloc _)) (show w10.ownsRow w.heap.size 55 2 v' (out ++ [(K, M)]).length (pksV (out ++ [(K, M)])) by
                        have e1 : pksV (out ++ [(K, M)]) = pksV out ++ [.int .i64 K, .string ⟨M.toArray⟩] := by simp [pksV, pkV]
                        rw [e1, List.length_append, List.length_singleton]
                        exact hown1))
                      clear hown1 hg1
                      go_wp2_with fail
                      go_roundw
                      case rel => exact ⟨p + (q + 12), f, out ++ [(K, M)], by go_num, by rw [show decide (p + (q + 12) = 0) = false from decide_eq_false (by omega)], HW.out.1, HW.out.2, HN.out, ⟨by omega, by omega⟩, by simp; omega, by omega⟩
                      case measure => simp [intOf]; omega
                · have HP6 := Lib.hid (show numOf ((s.drop p).take 4) false ≠ 6 by rw [HK.out]; exact h6)
                  have hb3 : (k == 6) = false := by simpa using h6
                  cases hb4 : ((out.length : Int) == 60)
                  all_goals
                    have HN := Lib.hid (HS.out.2.2.1.trans (trc_other s false f p q out hlt HR.out.1 HPK.out HP6.out) : readT s = trc s false f (p + (q + 12)) out)
                    have hq12 : (p : Int) + ((q : Int) + 12) ≤ 1000000 := by omega
                    go_wp2_with fail
                    go_roundw
                    case rel => exact ⟨p + (q + 12), f, out, by go_num, by rw [show decide (p + (q + 12) = 0) = false from decide_eq_false (by omega)], grownBy_trans H8.out (World.grownBy_alloc _ _ none), (HS.out.2.1.kept H8x.out (by cases Value.ownBlock (.slice ao out.length cap) <;> simp)).alloc _, HN.out, ⟨by omega, by omega⟩, ho, by omega⟩
                    case measure => simp [intOf]; omega
          · have HN := Lib.hid (fun q hq => hR ⟨q, hq⟩ : ∀ q, ¬ Right (s.drop p) false q)
            clear hR
            go_wp2_with fail
            rw [HX.out]
            refine (spec_no (s.drop p) false _ HN.out).mono ?_
            rintro e w8 ⟨rfl, hg⟩
            have H8 := Lib.hid (grownBy_trans HS.out.1 hg)
            clear hg
            have HE := Lib.hid (HS.out.2.2.1.trans (trc_none s false f p out hlt HN.out) : readT s = ([], (p : Int)))
            go_wp2_with fail
            exact bodyPost_ret (v := .tuple #[.slice none 0 0, .int .i64 (p : Nat)]) (by simp [results, Try.results11, go_sem]) rfl ⟨.slice none 0 0, by rw [HE.out], grownBy_trans H8.out (World.grownBy_alloc _ _ none), by rw [HE.out]; exact World.ownsRow_nil _ _ _ _⟩
        · obtain ⟨f, rfl⟩ : ∃ f', f = f' + 1 := ⟨f - 1, by omega⟩
          have HE := Lib.hid (HS.out.2.2.1.trans (trc_end s false f p out (by omega)) : readT s = (out, (-1 : Int)))
          have hp2 : ¬ (p : Int) < (s.length : Int) := by omega
          go_wp2_with fail
          exact bodyPost_ret (v := .tuple #[.slice ao out.length cap, .int .i64 (-1)]) (by simp [results, Try.results11, go_sem]) rfl ⟨.slice ao out.length cap, by rw [HE.out], HS.out.1, by rw [HE.out]; exact HS.out.2.1⟩
    · go_enter Try.func11, Try.ntmps11
      go_wp2_with fail
      refine (get2_any (markOf s) true _ (by omega)).mono ?_
      rintro e w1 ⟨rfl, hg⟩
      have h1 := HB.out.1
      have H2 := Lib.hid hg
      clear hg
      go_wp2_with fail
      have HK := Lib.hid (HKEY.out _ H2.out)
      clear h1
      go_loopw [5, 6, 7] (fun v i b wr => RsRel w s true v i b wr) (fun _ i _ _ => s.length - (intOf i).toNat)
      case atStart => exact HK.out
      case round =>
        obtain ⟨p, f, out, rfl, rfl, hg, hown, ht, ⟨hf0, hf⟩, ho, hpl⟩ := hrel
        obtain ⟨ao, cap, rfl⟩ : ∃ ao cap, u5 = .slice ao out.length cap := by
          rcases hown.2 with ⟨hv, h0⟩ | ⟨g, cap, cur, hv, _⟩
          · exact ⟨none, 0, by rw [hv, h0]⟩
          · exact ⟨_, _, hv⟩
        generalize hfb : decide (p = 0) = fb at *
        have HS := Lib.hid (And.intro hg (And.intro hown (And.intro ht hf)))
        clear hg hown ht
        by_cases hlt : p < s.length
        · obtain ⟨f, rfl⟩ : ∃ f', f = f' + 1 := ⟨f - 1, by omega⟩
          have hp1 : (p : Int) ≤ (s.length : Int) := by omega
          have hp2 : (p : Int) < (s.length : Int) := by omega
          have hxf := ext_from s p
          have HX := Lib.hid hxf
          clear hxf
          by_cases hR : ∃ q, Right (s.drop p) true q
          · obtain ⟨q, hR⟩ := hR
            have hqh := hR.here
            have hqm := hR.most
            have HR := Lib.hid (And.intro hR True.intro)
            clear hR
            have hdq : (s.drop p).length = s.length - p := by simp
            go_wp2_with fail
            rw [HX.out]
            refine (l2_yes (s.drop p) true q _ HR.out.1).mono ?_
            rintro e w8 ⟨rfl, hg⟩
            have H8 := Lib.hid (grownBy_trans HS.out.1 hg)
            have H8x := Lib.hid hg
            clear hg
            generalize hbd : ((s.drop p).drop 8).take q = t2 at *
            have HBD := Lib.hid hbd
            have hl2 : t2.length ≤ 800 := by rw [← hbd]; simp; omega
            clear hbd
            generalize hk : numOf ((s.drop p).take 4) true = k at *
            have HK := Lib.hid hk
            clear hk
            by_cases hkh : k = 168627466
            · by_cases hp0 : p = 0
              · have h6 : ¬ k = 6 := by omega
                obtain rfl : fb = true := by rw [← hfb]; exact decide_eq_true hp0
                have HPK := Lib.hid (And.intro (show (numOf ((s.drop p).take 4) true = 168627466) ↔ p = 0 by rw [HK.out]; exact ⟨fun _ => hp0, fun _ => hkh⟩) (show numOf ((s.drop p).take 4) true ≠ 6 by rw [HK.out]; exact h6))
                subst hkh
                clear hp0 h6 hfb
                cases hb4 : ((out.length : Int) == 60)
                all_goals
                  have HN := Lib.hid (HS.out.2.2.1.trans (trc_other s true f p q out hlt HR.out.1 HPK.out.1 HPK.out.2) : readT s = trc s true f (p + (q + 12)) out)
                  have hq12 : (p : Int) + ((q : Int) + 12) ≤ 1000000 := by omega
                  go_wp2_with fail
                  go_roundw
                  case rel => exact ⟨p + (q + 12), f, out, by go_num, by rw [show decide (p + (q + 12) = 0) = false from decide_eq_false (by omega)], grownBy_trans H8.out (World.grownBy_alloc _ _ none), (HS.out.2.1.kept H8x.out (by cases Value.ownBlock (.slice ao out.length cap) <;> simp)).alloc _, HN.out, ⟨by omega, by omega⟩, ho, by omega⟩
                  case measure => simp [intOf]; omega
              · obtain rfl : fb = false := by rw [← hfb]; exact decide_eq_false hp0
                have HPK := Lib.hid (show ¬ ((numOf ((s.drop p).take 4) true = 168627466) ↔ p = 0) by rw [HK.out]; exact fun hh => hp0 (hh.mp hkh))
                subst hkh
                clear hp0 hfb
                have HE := Lib.hid (HS.out.2.2.1.trans (trc_kind s true f p q out hlt HR.out.1 HPK.out) : readT s = ([], (p : Int)))
                go_wp2_with fail
                exact bodyPost_ret (v := .tuple #[.slice none 0 0, .int .i64 (p : Nat)]) (by simp [results, Try.results11, go_sem]) rfl ⟨.slice none 0 0, by rw [HE.out], grownBy_trans H8.out (World.grownBy_alloc _ _ none), by rw [HE.out]; exact World.ownsRow_nil _ _ _ _⟩
            · have hb2 : (k == 168627466) = false := by simpa using hkh
              by_cases hp0 : p = 0
              · obtain rfl : fb = true := by rw [← hfb]; exact decide_eq_true hp0
                have HPK := Lib.hid (show ¬ ((numOf ((s.drop p).take 4) true = 168627466) ↔ p = 0) by rw [HK.out]; exact fun hh => hkh (hh.mpr hp0))
                clear hp0 hfb
                have HE := Lib.hid (HS.out.2.2.1.trans (trc_kind s true f p q out hlt HR.out.1 HPK.out) : readT s = ([], (p : Int)))
                go_wp2_with fail
                exact bodyPost_ret (v := .tuple #[.slice none 0 0, .int .i64 (p : Nat)]) (by simp [results, Try.results11, go_sem]) rfl ⟨.slice none 0 0, by rw [HE.out], grownBy_trans H8.out (World.grownBy_alloc _ _ none), by rw [HE.out]; exact World.ownsRow_nil _ _ _ _⟩
              · obtain rfl : fb = false := by rw [← hfb]; exact decide_eq_false hp0
                have HPK := Lib.hid (show (numOf ((s.drop p).take 4) true = 168627466) ↔ p = 0 by rw [HK.out]; exact ⟨fun e => absurd e hkh, fun e => absurd e hp0⟩)
                clear hp0 hfb
                by_cases h6 : k = 6
                · have HP6 := Lib.hid (show numOf ((s.drop p).take 4) true = 6 by rw [HK.out]; exact h6)
                  subst h6
                  clear hkh hb2
                  by_cases h60 : out.length = 60
                  · have hb4 : ((out.length : Int) == 60) = true := by simp; omega
                    have HE := Lib.hid (HS.out.2.2.1.trans (trc_many s true f p q out hlt HR.out.1 HPK.out HP6.out h60) : readT s = ([], (p : Int)))
                    go_wp2_with fail
                    exact bodyPost_ret (v := .tuple #[.slice none 0 0, .int .i64 (p : Nat)]) (by simp [results, Try.results11, go_sem]) rfl ⟨.slice none 0 0, by rw [HE.out], grownBy_trans H8.out (World.grownBy_alloc _ _ none), by rw [HE.out]; exact World.ownsRow_nil _ _ _ _⟩
                  · have hb4 : ((out.length : Int) == 60) = false := by simp; omega
                    go_wp2_with fail
                    refine (body_spec t2 true _ (by omega)).mono ?_
                    rintro e w9 ⟨K, M, bb, rfl, hg, hyes, hno⟩
                    have H9 := Lib.hid (grownBy_trans H8.out (grownBy_trans (World.grownBy_alloc _ _ none) hg))
                    have hown9 := ((HS.out.2.1.kept H8x.out (by cases Value.ownBlock (.slice ao out.length cap) <;> simp)).alloc (.cells #[.int .i64 6, .string ⟨t2.toArray⟩] 34)).kept hg (by cases Value.ownBlock (.slice ao out.length cap) <;> simp)
                    have HO := Lib.hid (And.intro hown9 (And.intro hyes hno))
                    clear hg hown9 hyes hno
                    cases bb
                    · have HN2 := Lib.hid (show ∀ r, ¬ PkR (((s.drop p).drop 8).take q) true r by rw [HBD.out]; exact HO.out.2.2 rfl)
                      have HE := Lib.hid (HS.out.2.2.1.trans (trc_bad s true f p q out hlt HR.out.1 HPK.out HP6.out HN2.out) : readT s = ([], (p : Int)))
                      go_wp2_with fail
                      exact bodyPost_ret (v := .tuple #[.slice none 0 0, .int .i64 (p : Nat)]) (by simp [results, Try.results11, go_sem]) rfl ⟨.slice none 0 0, by rw [HE.out], grownBy_trans H9.out (World.grownBy_alloc _ _ none), by rw [HE.out]; exact World.ownsRow_nil _ _ _ _⟩
                    · have HN := Lib.hid (show readT s = trc s true f (p + (q + 12)) (out ++ [(K, M)]) by
                        obtain ⟨r, hr, hK, hM⟩ := HO.out.2.1 rfl
                        have hr' : PkR (((s.drop p).drop 8).take q) true r := by rw [HBD.out]; exact hr
                        have := HS.out.2.2.1.trans (trc_packet s true f p q r out hlt HR.out.1 HPK.out HP6.out hr' h60)
                        rw [HBD.out, ← hK, ← hM] at this
                        exact this)
                      have hq12 : (p : Int) + ((q : Int) + 12) ≤ 1000000 := by omega
                      go_wp2_with (at_builtin; refine wpList_append_own _ rfl _ _ 24 rfl w.heap.size 55 i0 _ 2 24 Try.underlying24 hi hz0 hz1 hz2 rfl (by decide) _ _ _ rfl ((HO.out.1.alloc _).alloc _) ⟨w9.heap.size + 1, 0, none⟩ 1 1 [.int .i64 K, .string ⟨M.toArray⟩] rfl rfl ?c1 ?c2 ?c3 ?c4 ?c5 ?_)
                      case c1 => exact cell_two_new (w9.alloc (.cells #[.int .i64 K, .string ⟨M.toArray⟩] 55)) _ _ _ _ (by simp)
                      case c2 => simp [Value.oneCell']
                      case c3 => unfold maxLen; omega
                      case c4 => omega
                      case c5 => exact Nat.le_trans H9.out.size (Nat.le_trans (World.grownBy_alloc _ _ none).size (World.grownBy_alloc _ _ none).size)
                      intro v' w10 hown1 hg1 _
                      have HW := Lib.hid (And.intro (grown_own (grownBy_trans H9.out (grownBy_trans (World.grownBy_alloc _ _ none) (World.grownBy_alloc _ _ none))) hg1 ((HO.out.1.alloc _).alloc _)) (show w10.ownsRow w.heap.size 55 2 v' (out ++ [(K, M)]).length (pksV (out ++ [(K, M)])) by
                        have e1 : pksV (out ++ [(K, M)]) = pksV out ++ [.int .i64 K, .string ⟨M.toArray⟩] := by simp [pksV, pkV]
                        rw [e1, List.length_append, List.length_singleton]
                        exact hown1))
                      clear hown1 hg1
                      go_wp2_with fail
                      go_roundw
                      case rel => exact ⟨p + (q + 12), f, out ++ [(K, M)], by go_num, by rw [show decide (p + (q + 12) = 0) = false from decide_eq_false (by omega)], HW.out.1, HW.out.2, HN.out, ⟨by omega, by omega⟩, by simp; omega, by omega⟩
                      case measure => simp [intOf]; omega
                · have HP6 := Lib.hid (show numOf ((s.drop p).take 4) true ≠ 6 by rw [HK.out]; exact h6)
                  have hb3 : (k == 6) = false := by simpa using h6
                  cases hb4 : ((out.length : Int) == 60)
                  all_goals
                    have HN := Lib.hid (HS.out.2.2.1.trans (trc_other s true f p q out hlt HR.out.1 HPK.out HP6.out) : readT s = trc s true f (p + (q + 12)) out)
                    have hq12 : (p : Int) + ((q : Int) + 12) ≤ 1000000 := by omega
                    go_wp2_with fail
                    go_roundw
                    case rel => exact ⟨p + (q + 12), f, out, by go_num, by rw [show decide (p + (q + 12) = 0) = false from decide_eq_false (by omega)], grownBy_trans H8.out (World.grownBy_alloc _ _ none), (HS.out.2.1.kept H8x.out (by cases Value.ownBlock (.slice ao out.length cap) <;> simp)).alloc _, HN.out, ⟨by omega, by omega⟩, ho, by omega⟩
                    case measure => simp [intOf]; omega
          · have HN := Lib.hid (fun q hq => hR ⟨q, hq⟩ : ∀ q, ¬ Right (s.drop p) true q)
            clear hR
            go_wp2_with fail
            rw [HX.out]
            refine (spec_no (s.drop p) true _ HN.out).mono ?_
            rintro e w8 ⟨rfl, hg⟩
            have H8 := Lib.hid (grownBy_trans HS.out.1 hg)
            clear hg
            have HE := Lib.hid (HS.out.2.2.1.trans (trc_none s true f p out hlt HN.out) : readT s = ([], (p : Int)))
            go_wp2_with fail
            exact bodyPost_ret (v := .tuple #[.slice none 0 0, .int .i64 (p : Nat)]) (by simp [results, Try.results11, go_sem]) rfl ⟨.slice none 0 0, by rw [HE.out], grownBy_trans H8.out (World.grownBy_alloc _ _ none), by rw [HE.out]; exact World.ownsRow_nil _ _ _ _⟩
        · obtain ⟨f, rfl⟩ : ∃ f', f = f' + 1 := ⟨f - 1, by omega⟩
          have HE := Lib.hid (HS.out.2.2.1.trans (trc_end s true f p out (by omega)) : readT s = (out, (-1 : Int)))
          have hp2 : ¬ (p : Int) < (s.length : Int) := by omega
          go_wp2_with fail
          exact bodyPost_ret (v := .tuple #[.slice ao out.length cap, .int .i64 (-1)]) (by simp [results, Try.results11, go_sem]) rfl ⟨.slice ao out.length cap, by rw [HE.out], HS.out.1, by rw [HE.out]; exact HS.out.2.1⟩
  intro w1 hg
  exact ⟨0, s.length + 1, [], rfl, rfl, grownBy_trans hg (World.grownBy_alloc _ _ none), World.ownsRow_lit w1 #[] 0 hg.size (Nat.zero_le _) rfl, HB.out.2.2, ⟨by omega, by omega⟩, by simp, by omega⟩

set_option maxRecDepth 100000 in
theorem read_spec (s : List UInt8) (w : World) : Calls Try.prog 11 #[.string ⟨s.toArray⟩] w (RtPost w (readT s).1 (readT s).2) := by
  by_cases h : 28 ≤ s.length ∧ s.length ≤ 40000
  · by_cases h1 : numOf (markOf s) true = 439041101
    · exact read_spec1 s true w h (by simpa using h1) (.inl rfl) (readT_big s h h1)
    · by_cases h2 : numOf (markOf s) false = 439041101
      · exact read_spec1 s false w h (by simpa using h1) (.inr (by simpa using h2)) (readT_little s h h1 h2)
      · have HT := Lib.hid (readT_none s h h1 h2)
        have b1 : (numOf (markOf s) true == 439041101) = false := by simpa using h1
        have b2 : (numOf (markOf s) false != 439041101) = true := by simpa using h2
        have HB := Lib.hid (And.intro b1 b2)
        have hi1 : 28 ≤ (s.length : Int) := by omega
        have hi2 : (s.length : Int) ≤ 40000 := by omega
        have hi3 : 12 ≤ (s.length : Int) := by omega
        have hm := mark_len s h.1
        have hx : (⟨s.toArray⟩ : ByteArray).extract 8 12 = ⟨(markOf s).toArray⟩ := extract_mid s 8 12 (by omega)
        clear h1 h2 b1 b2
        go_enter Try.func11, Try.ntmps11
        go_wp2_with fail
        refine (get2_any (markOf s) true _ (by omega)).mono ?_
        rintro e w1 ⟨rfl, hg⟩
        have b1 := HB.out.1
        have H1 := Lib.hid hg
        clear hg
        go_wp2_with fail
        refine (get2_any (markOf s) false _ (by omega)).mono ?_
        rintro e w2 ⟨rfl, hg⟩
        have b2 := HB.out.2
        have H2 := Lib.hid (grownBy_trans H1.out hg)
        clear hg
        go_wp2_with fail
        exact bodyPost_ret (v := .tuple #[.slice none 0 0, .int .i64 0]) (by simp [results, Try.results11, go_sem]) rfl ⟨.slice none 0 0, by rw [HT.out], H2.out, by rw [HT.out]; exact World.ownsRow_nil _ _ _ _⟩
  · have HT := Lib.hid (readT_short s h)
    by_cases h28 : 28 ≤ (s.length : Int)
    · have h4 : ¬ (s.length : Int) ≤ 40000 := by omega
      go_enter Try.func11, Try.ntmps11
      go_wp2_with fail
      exact bodyPost_ret (v := .tuple #[.slice none 0 0, .int .i64 0]) (by simp [results, Try.results11, go_sem]) rfl ⟨.slice none 0 0, by rw [HT.out], World.grownBy.refl _ _, by rw [HT.out]; exact World.ownsRow_nil _ _ _ _⟩
    · go_enter Try.func11, Try.ntmps11
      go_wp2_with fail
      exact bodyPost_ret (v := .tuple #[.slice none 0 0, .int .i64 0]) (by simp [results, Try.results11, go_sem]) rfl ⟨.slice none 0 0, by rw [HT.out], World.grownBy.refl _ _, by rw [HT.out]; exact World.ownsRow_nil _ _ _ _⟩

end Go.Proofs.Ytbhbbmocioefnaa
