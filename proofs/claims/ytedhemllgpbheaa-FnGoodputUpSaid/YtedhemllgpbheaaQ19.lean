/- PcAd -/
import Derived.Test.YtedhemllgpbheaaQ18
namespace Go.Proofs.Ytedhemllgpbheaa.P7
open Go.RowKit

theorem pk_one (w : World) (p : Int) (m : List UInt8) (T : TypeId) (b : Nat) (hb : b = w.heap.size) : PkAt (w.alloc (.cells #[.int .i64 p, .string ⟨m.toArray⟩] T)) (some ⟨b, 0, none⟩) [(p, m)] := by
  subst hb
  refine .inr ⟨w.heap.size, 0, rfl, by simp, fun i hi => ?_⟩
  obtain rfl : i = 0 := by simp at hi; omega
  exact ⟨by simp, by simp⟩
theorem pksV_snoc (l : List Pk) (a : Int) (b : List UInt8) : pksV (l ++ [(a, b)]) = pksV l ++ [.int .i64 a, .string ⟨b.toArray⟩] := by simp [pksV, pkV]
def AdRel (w : World) (p : Int) (m : List UInt8) (f : Int → Option UInt8) (N : Nat) (v nv av : Value) (wr : World) : Prop :=
  ∃ (n A : Nat) (now : List UInt8) (out : List Pk), av = .int .i64 (A : Int) ∧ nv = .string ⟨now.toArray⟩ ∧ A + n = N ∧ now.length ≤ A ∧ out.length ≤ A ∧ w.grownBy wr none ∧ wr.cell? ⟨w.heap.size, 0, none⟩ = some (.int .i64 p) ∧ wr.cell? ⟨w.heap.size, 1, none⟩ = some (.string ⟨m.toArray⟩) ∧ wr.ownsRow (w.heap.size + 1) 73 2 v out.length (pksV out) ∧ scan f n A now out = scan f N 0 [] []
def AddedPost (w : World) (l : List Pk) (x : Pk) (e : Ending) (w' : World) : Prop :=
  ∃ v, e = .returned v ∧ w.grownBy w' none ∧ w'.ownsRow w.heap.size 73 2 v (withL l x).length (pksV (withL l x))
theorem own_base {w : World} {B B' : Nat} {e : TypeId} {v : Value} {n s : Nat} {xs : List Value} (h : w.ownsRow B e s v n xs) (hB : B' ≤ B) : w.ownsRow B' e s v n xs := by
  rcases h with ⟨h1, h2 | ⟨g, cap, cur, h3, h4, h5⟩⟩
  · exact ⟨h1, .inl h2⟩
  · exact ⟨h1, .inr ⟨g, cap, cur, h3, Nat.le_trans hB h4, h5⟩⟩

set_option maxRecDepth 100000 in
set_option maxHeartbeats 8000000 in
theorem added_spec1 (a : Option Addr) (c : Nat) (l : List Pk) (p : Int) (m : List UInt8) (w : World) (h : PkAt w a l) (hok : PcsP l) (hp0 : 0 ≤ p) (hp1 : p ≤ 5000) (hm0 : 1 ≤ m.length) (hm1 : m.length ≤ 300) :
    Calls Try.prog 47 #[.slice a l.length c, .agg #[.int .i64 p, .string ⟨m.toArray⟩]] w (AddedPost w l (p, m)) := by
  obtain ⟨i0, hi, hz0, hz1, hz2⟩ := info_of infoPk
  have H := Lib.hid (And.intro h hok)
  have hl : l.length ≤ 60 := hok.1
  have HP := Lib.hid (show ∀ x ∈ l, pc2 x from fun x hx => by obtain ⟨x0, x1, x2, x3⟩ := hok.2.1 x hx; exact ⟨x0, by omega, by omega⟩)
  have HX := Lib.hid (show ∀ x ∈ [((p, m) : Pk)], pc2 x from fun x hx => by rw [List.mem_singleton.mp hx]; exact ⟨hp0, by show p ≤ _; omega, by show m.length ≤ _; omega⟩)
  have HEb := Lib.hid (show 0 ≤ endL l ∧ endL l ≤ 12000 from by
    cases hk : l.length with
    | zero => rw [List.length_eq_zero_iff.mp hk]; simp [endL]
    | succ k =>
      rw [endL_snoc l k hk]
      obtain ⟨x0, x1, x2, x3⟩ := hok.2.1 _ (List.getElem_mem (show k < l.length by omega))
      omega)
  have hb0 := HEb.out.1
  have hb1 := HEb.out.2
  have hw : IntKind.i64.wrap (p + (m.length : Int)) = p + m.length := IntWalk.i64_in _ (by omega)
  have HF := Lib.hid (fun (E : Int) (hE : E = max (endL l) (p + (m.length : Int))) => scan_with (l := l) (x := (p, m)) hok.good (fun x hx => (hok.2.1 x hx).1) (fun e => by simp only at e; rw [e] at hm0; simp at hm0) hp0 hE)
  clear h hok
  generalize hen : endL l = en at *
  have HEN := Lib.hid hen
  clear hen
  by_cases hcmp : en < p + (m.length : Int)
  · have HM := Lib.hid (HF.out (p + (m.length : Int)) (by omega))
    have hc2 : ¬ p + (m.length : Int) ≤ en := by omega
    obtain ⟨N, hN⟩ : ∃ N : Nat, ((p + (m.length : Int)) + 1).toNat = N := ⟨_, rfl⟩
    rw [hN] at HM
    have hN2 : (N : Int) = (p + (m.length : Int)) + 1 := by omega
    have hN3 : N ≤ 20000 := by omega
    clear hN
    go_enter Try.func47, Try.ntmps47
    go_wp2_with fail
    have z0 : (((w.alloc (.cells #[.int .i64 p, .string ⟨m.toArray⟩] 73)).alloc (.cells #[] 73))).drew.cell? ⟨w.heap.size, 0, none⟩ = some (.int .i64 p) := by go_simp
    have z1 : (((w.alloc (.cells #[.int .i64 p, .string ⟨m.toArray⟩] 73)).alloc (.cells #[] 73))).drew.cell? ⟨w.heap.size, 1, none⟩ = some (.string ⟨m.toArray⟩) := by go_simp
    have HO := Lib.hid (show (((w.alloc (.cells #[.int .i64 p, .string ⟨m.toArray⟩] 73)).alloc (.cells #[] 73))).ownsRow (w.heap.size + 1) 73 2 (.slice (some ⟨w.heap.size + 1, 0, none⟩) 0 0) 0 [] by
      have := World.ownsRow_lit (e := 73) (size := 2) (base := w.heap.size + 1) (w.alloc (.cells #[.int .i64 p, .string ⟨m.toArray⟩] 73)) #[] 0 (by simp) (Nat.zero_le _) rfl
      simpa using this)
    have HG := Lib.hid (show w.grownBy (((w.alloc (.cells #[.int .i64 p, .string ⟨m.toArray⟩] 73)).alloc (.cells #[] 73))).drew none from grownBy_trans (World.grownBy_alloc _ _ _) (grownBy_trans (World.grownBy_alloc _ _ _) grownBy_drew))
    have z2 := HG.out
    have HO := Lib.hid (own_kept HO.out (grownBy_drew (r := none)))
    generalize ((w.alloc (.cells #[.int .i64 p, .string ⟨m.toArray⟩] 73)).alloc (.cells #[] 73)) = w2 at *
    have z3 : w2.drew.grownBy w2.drew none := World.grownBy.refl _ _
    go_region_held3 (fun w' => w'.cell? ⟨w.heap.size, 0, none⟩ = some (.int .i64 p) ∧ w'.cell? ⟨w.heap.size, 1, none⟩ = some (.string ⟨m.toArray⟩) ∧ w2.drew.grownBy w' none) ((refine ⟨by first | assumption | (simp [*]; done), by first | assumption | (simp [*]; done), by assumption⟩))
      (first | (go_at_call 50; refine (end_spec _ _ _ _ (H.out.1.kept (grownBy_trans HG.out (by assumption))) (by omega) HP.out).mono ?_; rintro e w9 ⟨rfl, hg⟩; rw [HEN.out]; have q0 := hg.cell (a := ⟨w.heap.size, 0, none⟩) (v := .int .i64 p) (by first | assumption | (simp [*]; done)) (by simp); have q1 := hg.cell (a := ⟨w.heap.size, 1, none⟩) (v := .string ⟨m.toArray⟩) (by first | assumption | (simp [*]; done)) (by simp); have q2 := grownBy_trans (a := w2.drew) (by assumption) hg))
    have HR := Lib.hid (And.intro (show w2.drew.grownBy w9 none by assumption) (And.intro (show w9.cell? ⟨w.heap.size, 0, none⟩ = _ by assumption) (show w9.cell? ⟨w.heap.size, 1, none⟩ = _ by assumption)))
    go_wp2_with fail
    go_loopw [5, 7, 8] (fun v nv av wr => AdRel w p m (addF l (p, m)) N v nv av wr) (fun _ _ av _ => N - (intOf av).toNat)
    case atStart => exact ⟨N, 0, [], [], rfl, rfl, by omega, Nat.le_refl _, Nat.le_refl _, grownBy_trans HG.out HR.out.1, HR.out.2.1, HR.out.2.2, own_kept HO.out HR.out.1, rfl⟩
    case round =>
      obtain ⟨n, A, now, out, rfl, rfl, hAn, hnow, hout, hg, d0, d1, hown, hsc⟩ := hrel
      have HS := Lib.hid (And.intro hg (And.intro hown hsc))
      clear hg hown hsc
      by_cases hn : n = 0
      · have hA : ¬ (A : Int) ≤ (p + (m.length : Int)) := by omega
        have HZ := Lib.hid (show out = withL l (p, m) by rw [← HM.out, ← HS.out.2.2, hn]; rfl)
        clear hn
        go_wp2_with fail
        go_ret
        refine ⟨_, rfl, HS.out.1, ?_⟩
        rw [← HZ.out]
        exact own_base HS.out.2.1 (Nat.le_succ _)
      · obtain ⟨n, rfl⟩ : ∃ k, n = k + 1 := ⟨n - 1, by omega⟩
        clear hn
        have hA : (A : Int) ≤ (p + (m.length : Int)) := by omega
        have HSC := Lib.hid HS.out.2.2
        have hwA : IntKind.i64.wrap ((A : Int) + 1) = (A : Int) + 1 := IntWalk.i64_in _ (by omega)
        go_wp2_with fail
        refine (byte_spec _ _ _ _ _ (H.out.1.kept HS.out.1) (by omega) HP.out (by omega) (by omega)).mono ?_
        rintro e w3 ⟨rfl, hg⟩
        have e0 := hg.cell d0 (by simp)
        have e1 := hg.cell d1 (by simp)
        have H3 := Lib.hid (And.intro (grownBy_trans HS.out.1 hg) (own_kept HS.out.2.1 hg))
        clear hg d0 d1
        cases hL : byteL l (A : Int) with
        | some bt =>
          rw [show byteV (some bt) = (bt.toNat : Int) from rfl]
          have HE := Lib.hid (show scan (addF l (p, m)) n ((A + 1 : Nat) : Int) (now ++ [bt]) out = scan (addF l (p, m)) N 0 [] [] by rw [← HSC.out, scan, addF, hL]; rfl)
          have hbt := bt.toNat_lt
          have hb0 : ¬ (bt.toNat : Int) < 0 := by omega
          have hb1 : 0 ≤ (bt.toNat : Int) := by omega
          have hwu : IntKind.u8.wrap (bt.toNat : Int) = (bt.toNat : Int) := by rw [IntKind.wrap]; simp [IntKind.bits, IntKind.signed]; omega
          have hcv := conv_new w3 #[.int .u8 (bt.toNat : Int)] 5 1 1 [bt] rfl (fun j hj => (by have hj' : j = 0 := (by simp at hj; omega); subst hj'; simp))
          have hk1 : ¬ 9223372036854775807 < now.length + 1 := by omega
          go_wp2_with fail
          go_roundw
          case rel => exact ⟨n, A + 1, now ++ [bt], out, by first | rfl | go_num, by rw [← ba_append], by omega, by simp; omega, by omega, grownBy_trans H3.out.1 (World.grownBy_alloc _ _ _), (World.grownBy_alloc _ _ none).cell e0 (by simp), (World.grownBy_alloc _ _ none).cell e1 (by simp), H3.out.2.alloc _, HE.out⟩
          case measure => simp [intOf]; omega
        | none =>
          rw [show byteV none = -1 from rfl]
          go_wp2_with fail
          have HK := Lib.hid (pk_one w3 p m 73 _ rfl)
          refine (byte_spec (some ⟨w3.heap.size, 0, none⟩) 1 [(p, m)] (A : Int) _ HK.out (by simp) HX.out (by omega) (by omega)).mono ?_
          rintro e w4 ⟨rfl, hg⟩
          have g0 := hg.cell ((World.grownBy_alloc _ _ none).cell e0 (by simp)) (by simp)
          have g1 := hg.cell ((World.grownBy_alloc _ _ none).cell e1 (by simp)) (by simp)
          have H4 := Lib.hid (And.intro (grownBy_trans (grownBy_trans H3.out.1 (World.grownBy_alloc _ _ _)) hg) (own_kept (H3.out.2.alloc _) hg))
          have HSZ := Lib.hid (show w.heap.size + 1 ≤ w4.heap.size from World.block_lt_of_cell? w4 _ g0)
          clear hg e0 e1
          rw [show byteL [(p, m)] (A : Int) = pcAt (p, m) (A : Int) by simp [byteL]]
          cases hX : pcAt (p, m) (A : Int) with
          | some bt =>
            rw [show byteV (some bt) = (bt.toNat : Int) from rfl]
            have HE := Lib.hid (show scan (addF l (p, m)) n ((A + 1 : Nat) : Int) (now ++ [bt]) out = scan (addF l (p, m)) N 0 [] [] by rw [← HSC.out, scan, addF, hL, hX]; rfl)
            have hbt := bt.toNat_lt
            have hb0 : ¬ (bt.toNat : Int) < 0 := by omega
            have hb1 : 0 ≤ (bt.toNat : Int) := by omega
            have hwu : IntKind.u8.wrap (bt.toNat : Int) = (bt.toNat : Int) := by rw [IntKind.wrap]; simp [IntKind.bits, IntKind.signed]; omega
            have hcv := conv_new w4 #[.int .u8 (bt.toNat : Int)] 5 1 1 [bt] rfl (fun j hj => (by have hj' : j = 0 := (by simp at hj; omega); subst hj'; simp))
            have hk1 : ¬ 9223372036854775807 < now.length + 1 := by omega
            go_wp2_with fail
            go_roundw
            case rel => exact ⟨n, A + 1, now ++ [bt], out, by first | rfl | go_num, by rw [← ba_append], by omega, by simp; omega, by omega, grownBy_trans H4.out.1 (World.grownBy_alloc _ _ _), (World.grownBy_alloc _ _ none).cell g0 (by simp), (World.grownBy_alloc _ _ none).cell g1 (by simp), H4.out.2.alloc _, HE.out⟩
            case measure => simp [intOf]; omega
          | none =>
            rw [show byteV none = -1 from rfl]
            by_cases hno : now = []
            · have HE := Lib.hid (show scan (addF l (p, m)) n ((A + 1 : Nat) : Int) [] out = scan (addF l (p, m)) N 0 [] [] by rw [← HSC.out, scan, addF, hL, hX]; simp [hno])
              subst hno
              go_wp2_with fail
              go_roundw
              case rel => exact ⟨n, A + 1, [], out, by first | rfl | go_num, rfl, by omega, by simp, by omega, H4.out.1, g0, g1, H4.out.2, HE.out⟩
              case measure => simp [intOf]; omega
            · have HE := Lib.hid (show scan (addF l (p, m)) n ((A + 1 : Nat) : Int) [] (out ++ [((A : Int) - (now.length : Int), now)]) = scan (addF l (p, m)) N 0 [] [] by rw [← HSC.out, scan, addF, hL, hX]; simp [hno])
              have hem : now.isEmpty = false := by simpa using hno
              have hws : IntKind.i64.wrap ((A : Int) - (now.length : Int)) = (A : Int) - now.length := IntWalk.i64_in _ (by omega)
              go_wp2_with (at_builtin; refine wpList_append_own _ rfl _ _ 51 rfl (w.heap.size + 1) 73 i0 _ 2 24 Try.underlying51 hi hz0 hz1 hz2 rfl (by decide) _ _ _ rfl (H4.out.2.alloc _) ⟨w4.heap.size, 0, none⟩ 1 1 [.int .i64 ((A : Int) - now.length), .string ⟨now.toArray⟩] rfl rfl ?c1 ?c2 ?c3 ?c4 ?c5 ?_)
              try (case c1 => exact pair_new w4 _ _ _ _ rfl)
              case c2 => simp [Value.oneCell']
              case c3 => unfold maxLen; omega
              case c4 => omega
              case c5 => exact Nat.le_trans HSZ.out (by first | exact (World.grownBy_alloc _ _ none).size | simp)
              intro v' wz hown1 hg1 _
              have hnb : some w.heap.size ≠ Value.ownBlock u5 := fun e => by have := (H4.out.2.lt _ e.symm).1; omega
              have f0 := hg1.cell ((World.grownBy_alloc _ _ none).cell g0 (by simp)) hnb
              have f1 := hg1.cell ((World.grownBy_alloc _ _ none).cell g1 (by simp)) hnb
              have HW := Lib.hid (And.intro (grow_own (grownBy_trans H4.out.1 (World.grownBy_alloc _ _ none)) hg1 (H4.out.2.alloc _) (Nat.le_succ _)) (show wz.ownsRow (w.heap.size + 1) 73 2 v' (out ++ [((A : Int) - (now.length : Int), now)]).length (pksV (out ++ [((A : Int) - (now.length : Int), now)])) by
                rw [pksV_snoc, List.length_append, List.length_singleton]
                exact hown1))
              clear hown1 hg1
              go_wp2_with fail
              go_roundw
              case rel => exact ⟨n, A + 1, [], _, by first | rfl | go_num, rfl, by omega, by simp, by simp; omega, HW.out.1, f0, f1, HW.out.2, HE.out⟩
              case measure => simp [intOf]; omega
  · have HM := Lib.hid (HF.out en (by omega))
    have hc2 : p + (m.length : Int) ≤ en := by omega
    obtain ⟨N, hN⟩ : ∃ N : Nat, (en + 1).toNat = N := ⟨_, rfl⟩
    rw [hN] at HM
    have hN2 : (N : Int) = en + 1 := by omega
    have hN3 : N ≤ 20000 := by omega
    clear hN
    go_enter Try.func47, Try.ntmps47
    go_wp2_with fail
    have z0 : (((w.alloc (.cells #[.int .i64 p, .string ⟨m.toArray⟩] 73)).alloc (.cells #[] 73))).drew.cell? ⟨w.heap.size, 0, none⟩ = some (.int .i64 p) := by go_simp
    have z1 : (((w.alloc (.cells #[.int .i64 p, .string ⟨m.toArray⟩] 73)).alloc (.cells #[] 73))).drew.cell? ⟨w.heap.size, 1, none⟩ = some (.string ⟨m.toArray⟩) := by go_simp
    have HO := Lib.hid (show (((w.alloc (.cells #[.int .i64 p, .string ⟨m.toArray⟩] 73)).alloc (.cells #[] 73))).ownsRow (w.heap.size + 1) 73 2 (.slice (some ⟨w.heap.size + 1, 0, none⟩) 0 0) 0 [] by
      have := World.ownsRow_lit (e := 73) (size := 2) (base := w.heap.size + 1) (w.alloc (.cells #[.int .i64 p, .string ⟨m.toArray⟩] 73)) #[] 0 (by simp) (Nat.zero_le _) rfl
      simpa using this)
    have HG := Lib.hid (show w.grownBy (((w.alloc (.cells #[.int .i64 p, .string ⟨m.toArray⟩] 73)).alloc (.cells #[] 73))).drew none from grownBy_trans (World.grownBy_alloc _ _ _) (grownBy_trans (World.grownBy_alloc _ _ _) grownBy_drew))
    have z2 := HG.out
    have HO := Lib.hid (own_kept HO.out (grownBy_drew (r := none)))
    generalize ((w.alloc (.cells #[.int .i64 p, .string ⟨m.toArray⟩] 73)).alloc (.cells #[] 73)) = w2 at *
    have z3 : w2.drew.grownBy w2.drew none := World.grownBy.refl _ _
    go_region_held3 (fun w' => w'.cell? ⟨w.heap.size, 0, none⟩ = some (.int .i64 p) ∧ w'.cell? ⟨w.heap.size, 1, none⟩ = some (.string ⟨m.toArray⟩) ∧ w2.drew.grownBy w' none) ((refine ⟨by first | assumption | (simp [*]; done), by first | assumption | (simp [*]; done), by assumption⟩))
      (first | (go_at_call 50; refine (end_spec _ _ _ _ (H.out.1.kept (grownBy_trans HG.out (by assumption))) (by omega) HP.out).mono ?_; rintro e w9 ⟨rfl, hg⟩; rw [HEN.out]; have q0 := hg.cell (a := ⟨w.heap.size, 0, none⟩) (v := .int .i64 p) (by first | assumption | (simp [*]; done)) (by simp); have q1 := hg.cell (a := ⟨w.heap.size, 1, none⟩) (v := .string ⟨m.toArray⟩) (by first | assumption | (simp [*]; done)) (by simp); have q2 := grownBy_trans (a := w2.drew) (by assumption) hg))
    have HR := Lib.hid (And.intro (show w2.drew.grownBy w9 none by assumption) (And.intro (show w9.cell? ⟨w.heap.size, 0, none⟩ = _ by assumption) (show w9.cell? ⟨w.heap.size, 1, none⟩ = _ by assumption)))
    go_wp2_with fail
    go_loopw [5, 7, 8] (fun v nv av wr => AdRel w p m (addF l (p, m)) N v nv av wr) (fun _ _ av _ => N - (intOf av).toNat)
    case atStart => exact ⟨N, 0, [], [], rfl, rfl, by omega, Nat.le_refl _, Nat.le_refl _, grownBy_trans HG.out HR.out.1, HR.out.2.1, HR.out.2.2, own_kept HO.out HR.out.1, rfl⟩
    case round =>
      obtain ⟨n, A, now, out, rfl, rfl, hAn, hnow, hout, hg, d0, d1, hown, hsc⟩ := hrel
      have HS := Lib.hid (And.intro hg (And.intro hown hsc))
      clear hg hown hsc
      by_cases hn : n = 0
      · have hA : ¬ (A : Int) ≤ en := by omega
        have HZ := Lib.hid (show out = withL l (p, m) by rw [← HM.out, ← HS.out.2.2, hn]; rfl)
        clear hn
        go_wp2_with fail
        go_ret
        refine ⟨_, rfl, HS.out.1, ?_⟩
        rw [← HZ.out]
        exact own_base HS.out.2.1 (Nat.le_succ _)
      · obtain ⟨n, rfl⟩ : ∃ k, n = k + 1 := ⟨n - 1, by omega⟩
        clear hn
        have hA : (A : Int) ≤ en := by omega
        have HSC := Lib.hid HS.out.2.2
        have hwA : IntKind.i64.wrap ((A : Int) + 1) = (A : Int) + 1 := IntWalk.i64_in _ (by omega)
        go_wp2_with fail
        refine (byte_spec _ _ _ _ _ (H.out.1.kept HS.out.1) (by omega) HP.out (by omega) (by omega)).mono ?_
        rintro e w3 ⟨rfl, hg⟩
        have e0 := hg.cell d0 (by simp)
        have e1 := hg.cell d1 (by simp)
        have H3 := Lib.hid (And.intro (grownBy_trans HS.out.1 hg) (own_kept HS.out.2.1 hg))
        clear hg d0 d1
        cases hL : byteL l (A : Int) with
        | some bt =>
          rw [show byteV (some bt) = (bt.toNat : Int) from rfl]
          have HE := Lib.hid (show scan (addF l (p, m)) n ((A + 1 : Nat) : Int) (now ++ [bt]) out = scan (addF l (p, m)) N 0 [] [] by rw [← HSC.out, scan, addF, hL]; rfl)
          have hbt := bt.toNat_lt
          have hb0 : ¬ (bt.toNat : Int) < 0 := by omega
          have hb1 : 0 ≤ (bt.toNat : Int) := by omega
          have hwu : IntKind.u8.wrap (bt.toNat : Int) = (bt.toNat : Int) := by rw [IntKind.wrap]; simp [IntKind.bits, IntKind.signed]; omega
          have hcv := conv_new w3 #[.int .u8 (bt.toNat : Int)] 5 1 1 [bt] rfl (fun j hj => (by have hj' : j = 0 := (by simp at hj; omega); subst hj'; simp))
          have hk1 : ¬ 9223372036854775807 < now.length + 1 := by omega
          go_wp2_with fail
          go_roundw
          case rel => exact ⟨n, A + 1, now ++ [bt], out, by first | rfl | go_num, by rw [← ba_append], by omega, by simp; omega, by omega, grownBy_trans H3.out.1 (World.grownBy_alloc _ _ _), (World.grownBy_alloc _ _ none).cell e0 (by simp), (World.grownBy_alloc _ _ none).cell e1 (by simp), H3.out.2.alloc _, HE.out⟩
          case measure => simp [intOf]; omega
        | none =>
          rw [show byteV none = -1 from rfl]
          go_wp2_with fail
          have HK := Lib.hid (pk_one w3 p m 73 _ rfl)
          refine (byte_spec (some ⟨w3.heap.size, 0, none⟩) 1 [(p, m)] (A : Int) _ HK.out (by simp) HX.out (by omega) (by omega)).mono ?_
          rintro e w4 ⟨rfl, hg⟩
          have g0 := hg.cell ((World.grownBy_alloc _ _ none).cell e0 (by simp)) (by simp)
          have g1 := hg.cell ((World.grownBy_alloc _ _ none).cell e1 (by simp)) (by simp)
          have H4 := Lib.hid (And.intro (grownBy_trans (grownBy_trans H3.out.1 (World.grownBy_alloc _ _ _)) hg) (own_kept (H3.out.2.alloc _) hg))
          have HSZ := Lib.hid (show w.heap.size + 1 ≤ w4.heap.size from World.block_lt_of_cell? w4 _ g0)
          clear hg e0 e1
          rw [show byteL [(p, m)] (A : Int) = pcAt (p, m) (A : Int) by simp [byteL]]
          cases hX : pcAt (p, m) (A : Int) with
          | some bt =>
            rw [show byteV (some bt) = (bt.toNat : Int) from rfl]
            have HE := Lib.hid (show scan (addF l (p, m)) n ((A + 1 : Nat) : Int) (now ++ [bt]) out = scan (addF l (p, m)) N 0 [] [] by rw [← HSC.out, scan, addF, hL, hX]; rfl)
            have hbt := bt.toNat_lt
            have hb0 : ¬ (bt.toNat : Int) < 0 := by omega
            have hb1 : 0 ≤ (bt.toNat : Int) := by omega
            have hwu : IntKind.u8.wrap (bt.toNat : Int) = (bt.toNat : Int) := by rw [IntKind.wrap]; simp [IntKind.bits, IntKind.signed]; omega
            have hcv := conv_new w4 #[.int .u8 (bt.toNat : Int)] 5 1 1 [bt] rfl (fun j hj => (by have hj' : j = 0 := (by simp at hj; omega); subst hj'; simp))
            have hk1 : ¬ 9223372036854775807 < now.length + 1 := by omega
            go_wp2_with fail
            go_roundw
            case rel => exact ⟨n, A + 1, now ++ [bt], out, by first | rfl | go_num, by rw [← ba_append], by omega, by simp; omega, by omega, grownBy_trans H4.out.1 (World.grownBy_alloc _ _ _), (World.grownBy_alloc _ _ none).cell g0 (by simp), (World.grownBy_alloc _ _ none).cell g1 (by simp), H4.out.2.alloc _, HE.out⟩
            case measure => simp [intOf]; omega
          | none =>
            rw [show byteV none = -1 from rfl]
            by_cases hno : now = []
            · have HE := Lib.hid (show scan (addF l (p, m)) n ((A + 1 : Nat) : Int) [] out = scan (addF l (p, m)) N 0 [] [] by rw [← HSC.out, scan, addF, hL, hX]; simp [hno])
              subst hno
              go_wp2_with fail
              go_roundw
              case rel => exact ⟨n, A + 1, [], out, by first | rfl | go_num, rfl, by omega, by simp, by omega, H4.out.1, g0, g1, H4.out.2, HE.out⟩
              case measure => simp [intOf]; omega
            · have HE := Lib.hid (show scan (addF l (p, m)) n ((A + 1 : Nat) : Int) [] (out ++ [((A : Int) - (now.length : Int), now)]) = scan (addF l (p, m)) N 0 [] [] by rw [← HSC.out, scan, addF, hL, hX]; simp [hno])
              have hem : now.isEmpty = false := by simpa using hno
              have hws : IntKind.i64.wrap ((A : Int) - (now.length : Int)) = (A : Int) - now.length := IntWalk.i64_in _ (by omega)
              go_wp2_with (at_builtin; refine wpList_append_own _ rfl _ _ 51 rfl (w.heap.size + 1) 73 i0 _ 2 24 Try.underlying51 hi hz0 hz1 hz2 rfl (by decide) _ _ _ rfl (H4.out.2.alloc _) ⟨w4.heap.size, 0, none⟩ 1 1 [.int .i64 ((A : Int) - now.length), .string ⟨now.toArray⟩] rfl rfl ?c1 ?c2 ?c3 ?c4 ?c5 ?_)
              try (case c1 => exact pair_new w4 _ _ _ _ rfl)
              case c2 => simp [Value.oneCell']
              case c3 => unfold maxLen; omega
              case c4 => omega
              case c5 => exact Nat.le_trans HSZ.out (by first | exact (World.grownBy_alloc _ _ none).size | simp)
              intro v' wz hown1 hg1 _
              have hnb : some w.heap.size ≠ Value.ownBlock u5 := fun e => by have := (H4.out.2.lt _ e.symm).1; omega
              have f0 := hg1.cell ((World.grownBy_alloc _ _ none).cell g0 (by simp)) hnb
              have f1 := hg1.cell ((World.grownBy_alloc _ _ none).cell g1 (by simp)) hnb
              have HW := Lib.hid (And.intro (grow_own (grownBy_trans H4.out.1 (World.grownBy_alloc _ _ none)) hg1 (H4.out.2.alloc _) (Nat.le_succ _)) (show wz.ownsRow (w.heap.size + 1) 73 2 v' (out ++ [((A : Int) - (now.length : Int), now)]).length (pksV (out ++ [((A : Int) - (now.length : Int), now)])) by
                rw [pksV_snoc, List.length_append, List.length_singleton]
                exact hown1))
              clear hown1 hg1
              go_wp2_with fail
              go_roundw
              case rel => exact ⟨n, A + 1, [], _, by first | rfl | go_num, rfl, by omega, by simp, by simp; omega, HW.out.1, f0, f1, HW.out.2, HE.out⟩
              case measure => simp [intOf]; omega

end Go.Proofs.Ytedhemllgpbheaa.P7

