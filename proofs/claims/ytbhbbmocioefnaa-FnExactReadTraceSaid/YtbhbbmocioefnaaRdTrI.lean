/- The program's own reading of a trace. -/
import Derived.Test.YtbhbbmocioefnaaRdOrd
namespace Go.Proofs.Ytbhbbmocioefnaa
open Go.RowKit

def RtPost (w : World) (l : List Pk) (p : Int) (e : Ending) (w' : World) : Prop :=
  ∃ v, e = .returned (.tuple #[v, .int .i64 p]) ∧ w.grownBy w' none ∧ w'.ownsRow w.heap.size 55 2 v l.length (pksV l)
def RtRel (w : World) (s : List UInt8) (big : Bool) (v i : Value) (wr : World) : Prop :=
  ∃ (p f : Nat) (out : List Pk), i = .int .i64 (p : Nat) ∧ w.grownBy wr none ∧ wr.ownsRow w.heap.size 55 2 v out.length (pksV out) ∧ readT s = trc s big f p out ∧ (0 < f ∧ s.length < f + p) ∧ out.length ≤ 60 ∧ p ≤ s.length + 1000

theorem cell_two_new (w : World) (x y : Value) (T : TypeId) (b : Nat) (hb : b = w.heap.size) : ∀ j u, [x, y][j]? = some u → (w.alloc (.cells #[x, y] T)).cell? ((⟨b, 0, none⟩ : Addr).add j) = some u := by
  subst hb
  intro j u hj
  match j, hj with
  | 0, hj =>
    simp at hj
    subst hj
    simp [Addr.add]
  | 1, hj =>
    simp at hj
    subst hj
    simp [Addr.add]

set_option maxRecDepth 100000 in
set_option maxHeartbeats 2000000 in
theorem read_impl1 (s : List UInt8) (big : Bool) (w : World) (h : 28 ≤ s.length ∧ s.length ≤ 40000) (hb : decide (numOf (markOf s) true = 439041101) = big) (hc : decide (numOf (markOf s) true = 439041101 ∨ numOf (markOf s) false = 439041101) = true) (hT : readT s = trc s big (s.length + 1) 0 []) :
    Calls Try.prog 10 #[.string ⟨s.toArray⟩] w (RtPost w (readT s).1 (readT s).2) := by
  obtain ⟨i0, hi, hz0, hz1, hz2⟩ := info_of infoPk
  have HB := Lib.hid (And.intro hb (And.intro hc hT))
  clear hb hc hT
  go_enter Try.func10, Try.ntmps10
  go_wp2_with fail
  refine (order_any s _ h).mono ?_
  rintro e w1 ⟨rfl, hg⟩
  rw [HB.out.1, HB.out.2.1]
  have H1 := Lib.hid hg
  clear hg
  go_wp2_with fail
  go_loopw [6, 7] (fun v i wr => RtRel w s big v i wr) (fun _ i _ => s.length - (intOf i).toNat)
  case atStart => exact ⟨0, s.length + 1, [], rfl, H1.out, World.ownsRow_nil _ _ _ _, HB.out.2.2, ⟨by omega, by omega⟩, by simp, by omega⟩
  case round =>
    obtain ⟨p, f, out, rfl, hg, hown, ht, ⟨hf0, hf⟩, ho, hpl⟩ := hrel
    obtain ⟨ao, cap, rfl⟩ : ∃ ao cap, u6 = .slice ao out.length cap := by
      rcases hown.2 with ⟨hv, h0⟩ | ⟨g, cap, cur, hv, _⟩
      · exact ⟨none, 0, by rw [hv, h0]⟩
      · exact ⟨_, _, hv⟩
    have HS := Lib.hid (And.intro hg (And.intro hown (And.intro ht hf)))
    clear hg hown ht
    by_cases hlt : p < s.length
    · obtain ⟨f, rfl⟩ : ∃ f', f = f' + 1 := ⟨f - 1, by omega⟩
      have hp1 : (p : Int) ≤ (s.length : Int) := by omega
      have hp2 : (p : Int) < (s.length : Int) := by omega
      have hxf := ext_from s p
      have HX := Lib.hid hxf
      clear hxf
      have hdl : (s.drop p).length ≤ 1000000000000 := by simp; omega
      by_cases hR : ∃ q, Right (s.drop p) big q
      · obtain ⟨q, hR⟩ := hR
        have hqh := hR.here
        have hqm := hR.most
        have HR := Lib.hid (And.intro hR True.intro)
        clear hR
        have hdq : (s.drop p).length = s.length - p := by simp
        go_wp2_with fail
        rw [HX.out]
        refine (read_yes (s.drop p) big q _ HR.out.1 hdl).mono ?_
        rintro e w8 ⟨rfl, hg⟩
        have H8 := Lib.hid (grownBy_trans HS.out.1 hg)
        have H8x := Lib.hid hg
        clear hg
        generalize hbd : ((s.drop p).drop 8).take q = t2 at *
        have HBD := Lib.hid hbd
        have hl2 : t2.length ≤ 800 := by rw [← hbd]; simp; omega
        clear hbd
        generalize hk : numOf ((s.drop p).take 4) big = k at *
        have HK := Lib.hid hk
        clear hk
        by_cases hkh : k = 168627466
        · by_cases hp0 : p = 0
          · have h6 : ¬ k = 6 := by omega
            have hp0' : (p : Int) = 0 := by omega
            have HPK := Lib.hid (And.intro (show (numOf ((s.drop p).take 4) big = 168627466) ↔ p = 0 by rw [HK.out]; exact ⟨fun _ => hp0, fun _ => hkh⟩) (show numOf ((s.drop p).take 4) big ≠ 6 by rw [HK.out]; exact h6))
            subst hkh
            have hb1 : ((p : Int) == 0) = true := by simpa using hp0'
            clear hp0 hp0' h6
            have HN := Lib.hid (HS.out.2.2.1.trans (trc_other s big f p q out hlt HR.out.1 HPK.out.1 HPK.out.2) : readT s = trc s big f (p + (q + 12)) out)
            have hq12 : (p : Int) + ((q : Int) + 12) ≤ 1000000 := by omega
            go_wp2_with fail
            go_roundw
            case rel => exact ⟨p + (q + 12), f, out, by go_num, grownBy_trans H8.out (World.grownBy_alloc _ _ none), (HS.out.2.1.kept H8x.out (by cases Value.ownBlock (.slice ao out.length cap) <;> simp)).alloc _, HN.out, ⟨by omega, by omega⟩, ho, by omega⟩
            case measure => simp [intOf]; omega
          · have hp0' : ¬ (p : Int) = 0 := by omega
            have HPK := Lib.hid (show ¬ ((numOf ((s.drop p).take 4) big = 168627466) ↔ p = 0) by rw [HK.out]; exact fun hh => hp0 (hh.mp hkh))
            subst hkh
            have hb1 : ((p : Int) == 0) = false := by simpa using hp0'
            clear hp0
            have HE := Lib.hid (HS.out.2.2.1.trans (trc_kind s big f p q out hlt HR.out.1 HPK.out) : readT s = ([], (p : Int)))
            go_wp2_with fail
            exact bodyPost_ret (v := .tuple #[.slice none 0 0, .int .i64 (p : Nat)]) (by simp [results, Try.results10, go_sem]) rfl ⟨.slice none 0 0, by rw [HE.out], grownBy_trans H8.out (World.grownBy_alloc _ _ none), by rw [HE.out]; exact World.ownsRow_nil _ _ _ _⟩
        · by_cases hp0 : p = 0
          · have hp0' : (p : Int) = 0 := by omega
            have hb1 : ((p : Int) == 0) = true := by simpa using hp0'
            have HPK := Lib.hid (show ¬ ((numOf ((s.drop p).take 4) big = 168627466) ↔ p = 0) by rw [HK.out]; exact fun hh => hkh (hh.mpr hp0))
            have hb2 : (k == 168627466) = false := by simpa using hkh
            clear hp0 hp0'
            have HE := Lib.hid (HS.out.2.2.1.trans (trc_kind s big f p q out hlt HR.out.1 HPK.out) : readT s = ([], (p : Int)))
            go_wp2_with fail
            exact bodyPost_ret (v := .tuple #[.slice none 0 0, .int .i64 (p : Nat)]) (by simp [results, Try.results10, go_sem]) rfl ⟨.slice none 0 0, by rw [HE.out], grownBy_trans H8.out (World.grownBy_alloc _ _ none), by rw [HE.out]; exact World.ownsRow_nil _ _ _ _⟩
          · have hp0' : ¬ (p : Int) = 0 := by omega
            have HPK := Lib.hid (show (numOf ((s.drop p).take 4) big = 168627466) ↔ p = 0 by rw [HK.out]; exact ⟨fun e => absurd e hkh, fun e => absurd e hp0⟩)
            have hb1 : ((p : Int) == 0) = false := by simpa using hp0'
            have hb2 : (k == 168627466) = false := by simpa using hkh
            clear hp0
            by_cases h6 : k = 6
            · have HP6 := Lib.hid (show numOf ((s.drop p).take 4) big = 6 by rw [HK.out]; exact h6)
              subst h6
              clear hkh
              by_cases hP : ∃ r, PkR t2 big r
              · obtain ⟨r, hP⟩ := hP
                have HP := Lib.hid hP
                clear hP
                go_wp2_with fail
                refine (pread_yes t2 big r _ HP.out (by omega)).mono ?_
                rintro e w9 ⟨rfl, hg⟩
                have hP' : PkR (((s.drop p).drop 8).take q) big r := by rw [HBD.out]; exact HP.out
                have hTP := trc_packet s big f p q r out hlt HR.out.1 HPK.out HP6.out hP'
                have hTM := trc_many s big f p q out hlt HR.out.1 HPK.out HP6.out
                rw [HBD.out] at hTP
                generalize timeOf t2 4 big = K at *
                generalize (t2.drop 20).take r = M at *
                have H9 := Lib.hid (grownBy_trans H8.out (grownBy_trans (World.grownBy_alloc _ _ none) hg))
                have hown9 := ((HS.out.2.1.kept H8x.out (by cases Value.ownBlock (.slice ao out.length cap) <;> simp)).alloc (.cells #[.int .i64 6, .string ⟨t2.toArray⟩] 34)).kept hg (by cases Value.ownBlock (.slice ao out.length cap) <;> simp)
                have HO := Lib.hid (And.intro hown9 (And.intro hTP hTM))
                clear hg hown9 hTP hTM hP'
                by_cases h60 : out.length = 60
                · have hb4 : ((out.length : Int) == 60) = true := by simp; omega
                  have HE := Lib.hid (HS.out.2.2.1.trans (HO.out.2.2 h60) : readT s = ([], (p : Int)))
                  go_wp2_with fail
                  exact bodyPost_ret (v := .tuple #[.slice none 0 0, .int .i64 (p : Nat)]) (by simp [results, Try.results10, go_sem]) rfl ⟨.slice none 0 0, by rw [HE.out], grownBy_trans H9.out (World.grownBy_alloc _ _ none), by rw [HE.out]; exact World.ownsRow_nil _ _ _ _⟩
                · have hb4 : ((out.length : Int) == 60) = false := by simp; omega
                  have HN := Lib.hid (HS.out.2.2.1.trans (HO.out.2.1 h60) : readT s = trc s big f (p + (q + 12)) (out ++ [(K, M)]))
                  have hq12 : (p : Int) + ((q : Int) + 12) ≤ 1000000 := by omega
                  go_wp2_with (at_builtin; refine wpList_append_own _ rfl _ _ 24 rfl w.heap.size 55 i0 _ 2 24 Try.underlying24 hi hz0 hz1 hz2 rfl (by decide) _ _ _ rfl ((HO.out.1.alloc _).alloc _) ⟨w9.heap.size + 1, 0, none⟩ 1 1 [.int .i64 K, .string ⟨M.toArray⟩] rfl rfl ?c1 ?c2 ?c3 ?c4 ?c5 ?_)
                  case c1 => exact cell_two_new (w9.alloc (.cells #[.int .i64 K, .string ⟨M.toArray⟩] 55)) _ _ _ _ (by simp)
                  case c2 => simp [Value.oneCell']
                  case c3 => unfold maxLen; omega
                  case c4 => omega
                  case c5 => exact Nat.le_trans H9.out.size (Nat.le_trans (World.grownBy_alloc _ _ none).size (World.grownBy_alloc _ _ none).size)
                  intro v' w10 hown1 hg1 _
                  have HW := Lib.hid (And.intro (grown_own (grownBy_trans H9.out (grownBy_trans (World.grownBy_alloc _ _ none) (World.grownBy_alloc _ _ none))) hg1 ((HO.out.1.alloc _).alloc _)) (show w10.ownsRow w.heap.size 55 2 v' (out ++ [(K, M)]).length (pksV (out ++ [(K, M)])) by
                    have e1 : pksV (out ++ [(K, M)]) = pksV out ++ [.int .i64 K, .string ⟨M.toArray⟩] := by simp [pksV, pkV]
                    rw [e1, List.length_append, List.length_singleton]
                    exact hown1))
                  clear hown1 hg1
                  go_wp2_with fail
                  go_roundw
                  case rel => exact ⟨p + (q + 12), f, out ++ [(K, M)], by go_num, HW.out.1, HW.out.2, HN.out, ⟨by omega, by omega⟩, by simp; omega, by omega⟩
                  case measure => simp [intOf]; omega
              · have HN := Lib.hid (fun r hr => hP ⟨r, hr⟩ : ∀ r, ¬ PkR t2 big r)
                have HN2 := Lib.hid (show ∀ r, ¬ PkR (((s.drop p).drop 8).take q) big r by rw [HBD.out]; exact HN.out)
                clear hP
                go_wp2_with fail
                refine (pread_no t2 big _ HN.out (by omega)).mono ?_
                rintro e w9 ⟨rfl, hg⟩
                have H9 := Lib.hid (grownBy_trans H8.out (grownBy_trans (World.grownBy_alloc _ _ none) hg))
                clear hg
                have HE := Lib.hid (HS.out.2.2.1.trans (trc_bad s big f p q out hlt HR.out.1 HPK.out HP6.out HN2.out) : readT s = ([], (p : Int)))
                go_wp2_with fail
                exact bodyPost_ret (v := .tuple #[.slice none 0 0, .int .i64 (p : Nat)]) (by simp [results, Try.results10, go_sem]) rfl ⟨.slice none 0 0, by rw [HE.out], grownBy_trans H9.out (World.grownBy_alloc _ _ none), by rw [HE.out]; exact World.ownsRow_nil _ _ _ _⟩
            · have HP6 := Lib.hid (show numOf ((s.drop p).take 4) big ≠ 6 by rw [HK.out]; exact h6)
              have hb3 : (k == 6) = false := by simpa using h6
              have HN := Lib.hid (HS.out.2.2.1.trans (trc_other s big f p q out hlt HR.out.1 HPK.out HP6.out) : readT s = trc s big f (p + (q + 12)) out)
              have hq12 : (p : Int) + ((q : Int) + 12) ≤ 1000000 := by omega
              go_wp2_with fail
              go_roundw
              case rel => exact ⟨p + (q + 12), f, out, by go_num, grownBy_trans H8.out (World.grownBy_alloc _ _ none), (HS.out.2.1.kept H8x.out (by cases Value.ownBlock (.slice ao out.length cap) <;> simp)).alloc _, HN.out, ⟨by omega, by omega⟩, ho, by omega⟩
              case measure => simp [intOf]; omega
      · have HN := Lib.hid (fun q hq => hR ⟨q, hq⟩ : ∀ q, ¬ Right (s.drop p) big q)
        clear hR
        go_wp2_with fail
        rw [HX.out]
        refine (read_no (s.drop p) big _ HN.out hdl).mono ?_
        rintro e w8 ⟨rfl, hg⟩
        have H8 := Lib.hid (grownBy_trans HS.out.1 hg)
        clear hg
        have HE := Lib.hid (HS.out.2.2.1.trans (trc_none s big f p out hlt HN.out) : readT s = ([], (p : Int)))
        go_wp2_with fail
        exact bodyPost_ret (v := .tuple #[.slice none 0 0, .int .i64 (p : Nat)]) (by simp [results, Try.results10, go_sem]) rfl ⟨.slice none 0 0, by rw [HE.out], grownBy_trans H8.out (World.grownBy_alloc _ _ none), by rw [HE.out]; exact World.ownsRow_nil _ _ _ _⟩
    · obtain ⟨f, rfl⟩ : ∃ f', f = f' + 1 := ⟨f - 1, by omega⟩
      have HE := Lib.hid (HS.out.2.2.1.trans (trc_end s big f p out (by omega)) : readT s = (out, (-1 : Int)))
      have hp2 : ¬ (p : Int) < (s.length : Int) := by omega
      go_wp2_with fail
      exact bodyPost_ret (v := .tuple #[.slice ao out.length cap, .int .i64 (-1)]) (by simp [results, Try.results10, go_sem]) rfl ⟨.slice ao out.length cap, by rw [HE.out], HS.out.1, by rw [HE.out]; exact HS.out.2.1⟩

theorem readT_short (s : List UInt8) (h : ¬ (28 ≤ s.length ∧ s.length ≤ 40000)) : readT s = ([], 0) := if_neg h
theorem readT_big (s : List UInt8) (h : 28 ≤ s.length ∧ s.length ≤ 40000) (h1 : numOf (markOf s) true = 439041101) : readT s = trc s true (s.length + 1) 0 [] := by rw [readT, if_pos h, if_pos h1]
theorem readT_little (s : List UInt8) (h : 28 ≤ s.length ∧ s.length ≤ 40000) (h1 : ¬ numOf (markOf s) true = 439041101) (h2 : numOf (markOf s) false = 439041101) : readT s = trc s false (s.length + 1) 0 [] := by rw [readT, if_pos h, if_neg h1, if_pos h2]
theorem readT_none (s : List UInt8) (h : 28 ≤ s.length ∧ s.length ≤ 40000) (h1 : ¬ numOf (markOf s) true = 439041101) (h2 : ¬ numOf (markOf s) false = 439041101) : readT s = ([], 0) := by rw [readT, if_pos h, if_neg h1, if_neg h2]

set_option maxRecDepth 100000 in
theorem read_impl2 (s : List UInt8) (w : World) (ho : ∀ w, Calls Try.prog 32 #[.string ⟨s.toArray⟩] w (OrdPost w false false)) (hT : readT s = ([], 0)) :
    Calls Try.prog 10 #[.string ⟨s.toArray⟩] w (RtPost w (readT s).1 (readT s).2) := by
  have HO := Lib.hid (And.intro ho hT)
  clear ho hT
  go_enter Try.func10, Try.ntmps10
  go_wp2_with fail
  refine (HO.out.1 _).mono ?_
  rintro e w1 ⟨rfl, hg⟩
  have H1 := Lib.hid hg
  clear hg
  go_wp2_with fail
  exact bodyPost_ret (v := .tuple #[.slice none 0 0, .int .i64 0]) (by simp [results, Try.results10, go_sem]) rfl ⟨.slice none 0 0, by rw [HO.out.2], H1.out, by rw [HO.out.2]; exact World.ownsRow_nil _ _ _ _⟩

theorem read_impl (s : List UInt8) (w : World) : Calls Try.prog 10 #[.string ⟨s.toArray⟩] w (RtPost w (readT s).1 (readT s).2) := by
  by_cases h : 28 ≤ s.length ∧ s.length ≤ 40000
  · by_cases h1 : numOf (markOf s) true = 439041101
    · exact read_impl1 s true w h (decide_eq_true h1) (decide_eq_true (.inl h1)) (readT_big s h h1)
    · by_cases h2 : numOf (markOf s) false = 439041101
      · exact read_impl1 s false w h (decide_eq_false h1) (decide_eq_true (.inr h2)) (readT_little s h h1 h2)
      · refine read_impl2 s w (fun w => ?_) (readT_none s h h1 h2)
        have := order_any s w h
        rw [decide_eq_false h1, decide_eq_false (show ¬ (numOf (markOf s) true = 439041101 ∨ numOf (markOf s) false = 439041101) from fun hh => hh.elim h1 h2)] at this
        exact this
  · exact read_impl2 s w (fun w => order_short s w h) (readT_short s h)

end Go.Proofs.Ytbhbbmocioefnaa
