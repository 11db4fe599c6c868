/- The program's reading of options: an option, all of them, what is given up with a panic and its recover. -/
import Derived.Test.YtefpnbmjcailgaaBxO
import Derived.Laws.EntriesVeiled
import Derived.Defers
namespace Go.Proofs.Ytefpnbmjcailgaa
open Go.RowKit

theorem grown_frozen {a b : World} {row : Option Nat} (hg : a.grownBy b row) {p : Addr} {v : Value} (h : a.cell? p = some v) (hne : some p.block ≠ row) {x : Bool} (hf : a.frozen? p = x) : b.frozen? p = x := grown_frz hg h hne hf

/-- Of what was there all but some blocks is as it was. -/
structure KeptBut (p : Nat → Prop) (w w' : World) : Prop where
  os : w'.os = w.os
  tape : w'.tape = w.tape
  output : w'.output = w.output
  size : w.heap.size ≤ w'.heap.size
  block : ∀ k, k < w.heap.size → ¬ p k → w'.heap[k]? = w.heap[k]?
theorem KeptBut.of {w w' : World} {r : Option Nat} {p : Nat → Prop} (h : w.grownBy w' r) (hp : ∀ k, r = some k → k < w.heap.size → p k) : KeptBut p w w' :=
  ⟨h.os, h.tape, h.output, h.size, fun k hk hn => h.block k hk (fun e => hn (hp k e.symm hk))⟩
theorem KeptBut.trans {p : Nat → Prop} {a b c : World} (h : KeptBut p a b) (k : KeptBut p b c) : KeptBut p a c :=
  ⟨k.os.trans h.os, k.tape.trans h.tape, k.output.trans h.output, Nat.le_trans h.size k.size, fun i hi hn => (k.block i (Nat.lt_of_lt_of_le hi h.size) hn).trans (h.block i hi hn)⟩
theorem KeptBut.cell {p : Nat → Prop} {w w' : World} (h : KeptBut p w w') {a : Addr} {v : Value} (hc : w.cell? a = some v) (hn : ¬ p a.block) : w'.cell? a = some v := by
  rw [World.cell?_of_block (h.block a.block (World.block_lt_of_cell? w a hc) hn)]
  exact hc
theorem KeptBut.frozen {p : Nat → Prop} {w w' : World} (h : KeptBut p w w') {a : Addr} {v : Value} (hc : w.cell? a = some v) (hn : ¬ p a.block) {x : Bool} (hf : w.frozen? a = x) : w'.frozen? a = x := by
  rw [World.frozen?_of_block (h.block a.block (World.block_lt_of_cell? w a hc) hn)]
  exact hf
theorem KeptBut.grown {p : Nat → Prop} {w a b : World} (h : w.grownBy a none) (k : KeptBut p a b) (hp : ∀ i, p i → w.heap.size ≤ i) : w.grownBy b none :=
  ⟨k.os.trans h.os, k.tape.trans h.tape, k.output.trans h.output, Nat.le_trans h.size k.size, fun i hi _ => (k.block i (Nat.lt_of_lt_of_le hi h.size) (fun e => by have := hp i e; omega)).trans (h.block i hi (by simp))⟩


def PE : PanicEntry := { v := .iface 9 (.string ⟨#[110, 111, 116, 32, 114, 105, 103, 104, 116]⟩), recovered := false }
def OyPost (w : World) (B : Nat) (k : Int) (m s : ByteArray) (e : Ending) (w' : World) : Prop :=
  e = .returned (.agg #[.int .i64 k, .string m]) ∧ w.grownBy w' (some B) ∧ Bx w' B 60 #[.string s]
theorem oy_facts (S : ByteArray) (h1 : 1 < S.size) (h3 : ¬ S[1].toNat < 2) (h4 : ¬ S.size < S[1].toNat) (hs : S.size ≤ 100) : 2 + (S.extract 2 S[1].toNat).size = S[1].toNat ∧ 2 + (S.extract 2 S[1].toNat).size ≤ S.size ∧ 2 + ((S.extract 2 S[1].toNat).size : Int) ≤ (S.size : Int) ∧ (0 : Int) < (S.size : Int) ∧ 0 < S.size ∧ ((S.extract 2 S[1].toNat).size : Int) ≤ 1000 ∧ S[1].toNat ≤ S.size := by
  generalize S[1].toNat = k at *
  have hxs : (S.extract 2 k).size = k - 2 := by rw [← sz_list, ba_cut, List.length_take, List.length_drop, sz_list]; omega
  rw [hxs]
  omega

theorem oy_set {w W : World} {B i : Nat} {v : Value} (h : w.grownBy W (some B)) : w.grownBy (W.setCell ⟨B, i, none⟩ v) (some B) := grownBy_trans h (grownBy_set _ _ _ _)
theorem oy_new {w W : World} {B C i : Nat} {v : Value} (h : w.grownBy W (some B)) (hC : w.heap.size ≤ C) : w.grownBy (W.setCell ⟨C, i, none⟩ v) (some B) := gSr h hC i v
theorem oy_al {w W : World} {B : Nat} (h : w.grownBy W (some B)) (o : Obj) : w.grownBy (W.alloc o) (some B) := grownBy_trans h (World.grownBy_alloc _ _ _)
theorem oy_bs {W : World} {B : Nat} {t : TypeId} {x v : Value} (h : Bx W B t #[x]) : Bx (W.setCell ⟨B, 0, none⟩ v) B t #[v] := h.s 0 v

set_option maxRecDepth 100000 in
set_option maxHeartbeats 1500000 in
theorem option_yes (B : Nat) (S : ByteArray) (w : World) (h : Bx w B 60 #[.string S]) (hs : S.size ≤ 100) (h1 : 1 < S.size) (h3 : ¬ S[1].toNat < 2) (h4 : ¬ S.size < S[1].toNat) :
    Calls Try.prog 50 #[.pointer (some ⟨B, 0, none⟩)] w (OyPost w B S[0].toNat (S.extract 2 S[1].toNat) (S.extract S[1].toNat S.size)) := by
  have hA := World.grownBy_alloc w (.cells #[.int .i64 0, .string ⟨#[]⟩] 43) none
  have hR := Bx.new w 43 #[.int .i64 0, .string ⟨#[]⟩]
  have hlt := h.lt
  have H := Lib.hid (And.intro (h.keep hA) (And.intro hA hR))
  have hwa2 := wrap_byte2 S[0]
  have HBY := Lib.hid (body_yes1 S · (by omega) h1 h3 h4)
  obtain ⟨hw2, hk4, hk5, h0i, h0n, hmz, hk6⟩ := oy_facts S h1 h3 h4 hs
  have HQ := Lib.hid hw2
  clear hw2 hk6
  generalize S.extract 2 S[1].toNat = m at HBY HQ hk4 hk5 hmz ⊢
  clear h hA hR h3 h4
  have b0 := H.out.1.c 0 rfl
  have bf := H.out.1.f 0
  have r0 := H.out.2.2.c 0 rfl
  have r1 := H.out.2.2.c 1 rfl
  have f0 := H.out.2.2.f 0
  have f1 := H.out.2.2.f 1
  go_enter Try.func50, Try.ntmps50
  go_wp2_with fail
  generalize w.alloc (.cells #[.int .i64 0, .string ⟨#[]⟩] 43) = w1 at *
  refine (HBY.out _).mono ?_
  rintro e w2 ⟨rfl, rfl⟩
  have lr := H.out.2.2.lt
  have lb := H.out.1.lt
  go_wp2_with fail
  have hne : w.heap.size ≠ B := by omega
  have hne2 : w2.heap.size ≠ B := by omega
  refine bodyPost_ret (v := .agg #[.int .i64 (S[0].toNat : Int), .string m]) ?_ rfl ⟨rfl, ?_, ?_⟩
  · simp [results, Try.results50, go_sem, r0, r1, lr]
  · repeat (first | with_reducible exact gE H.out.2.1 | with_reducible refine oy_set ?_ | with_reducible refine oy_new ?_ (by omega) | with_reducible refine oy_al ?_ _)
  · rw [HQ.out]
    repeat (first | with_reducible exact H.out.1 | with_reducible refine oy_bs (x := .string S) ?_ | with_reducible refine Bx.other ?_ (by omega) _ _ | with_reducible refine Bx.alloc ?_ _)


def OnPost (w : World) (e : Ending) (w' : World) : Prop := e = .panicked [PE] ∧ w.grownBy w' none

set_option maxRecDepth 100000 in
set_option maxHeartbeats 1500000 in
theorem option_no (B : Nat) (S : ByteArray) (w : World) (h : Bx w B 60 #[.string S]) (hs : S.size ≤ 100) (hw : ¬ whole S.data.toList) : Calls Try.prog 50 #[.pointer (some ⟨B, 0, none⟩)] w (OnPost w) := by
  have hA := World.grownBy_alloc w (.cells #[.int .i64 0, .string ⟨#[]⟩] 43) none
  have H := Lib.hid (And.intro (h.keep hA) hA)
  have HBY := Lib.hid (fun W => body_no S.data.toList W (by rw [sz_list]; omega) hw)
  rw [← ba_eta S] at HBY
  clear h hA hw
  have b0 := H.out.1.c 0 rfl
  go_enter Try.func50, Try.ntmps50
  go_wp2_with fail
  generalize w.alloc (.cells #[.int .i64 0, .string ⟨#[]⟩] 43) = w1 at *
  refine (HBY.out _).mono ?_
  rintro e w2 ⟨rfl, rfl⟩
  go_wp2_with fail
  exact ⟨rfl, rfl, H.out.2⟩

def OsPost (w : World) (B : Nat) (R : Option (List Pk)) (e : Ending) (w' : World) : Prop :=
  w.grownBy w' (some B) ∧ ((∃ r a c, R = some r ∧ e = .returned (.slice a r.length c) ∧ w'.ownsRow w.heap.size 43 2 (.slice a r.length c) r.length (pksV r)) ∨ (R = none ∧ e = .panicked [PE]))
def OiRel (w : World) (B : Nat) (R : Option (List Pk)) (l : Value) (wr : World) : Prop :=
  ∃ (S : ByteArray) (acc : List Pk) (f : Nat), Bx wr B 60 #[.string S] ∧ wr.ownsRow w.heap.size 43 2 l acc.length (pksV acc) ∧ w.grownBy wr (some B) ∧ S.size < f ∧ 2 * acc.length + S.size ≤ 40 ∧ optO f S.data.toList acc = R
def szB (w : World) (B : Nat) : Nat := match w.cell? ⟨B, 0, none⟩ with | some (.string b) => b.size | _ => 0
theorem szB_of {w : World} {B : Nat} {t : TypeId} {S : ByteArray} (h : Bx w B t #[.string S]) : szB w B = S.size := by
  unfold szB
  rw [h.c 0 rfl]
  rfl
theorem row_ne {w wr : World} {B s n : Nat} {e : TypeId} {v : Value} {xs : List Value} (h : wr.ownsRow w.heap.size e s v n xs) (hB : B < w.heap.size) : some B ≠ v.ownBlock := fun e => by have := h.lt B e.symm; omega
theorem row_ne2 {w wr : World} {B s n : Nat} {e : TypeId} {v : Value} {xs : List Value} (h : wr.ownsRow w.heap.size e s v n xs) (hB : B < w.heap.size) : v.ownBlock = none ∨ v.ownBlock ≠ some B := by
  cases hv : v.ownBlock with
  | none => exact .inl rfl
  | some g =>
    refine .inr fun e => ?_
    cases e
    have := h.lt B hv
    omega
theorem row_grow {w a b : World} {B s n : Nat} {e : TypeId} {v : Value} {xs : List Value} (h : w.grownBy a (some B)) (ho : a.ownsRow w.heap.size e s v n xs) (k : a.grownBy b v.ownBlock) : w.grownBy b (some B) :=
  ⟨k.os.trans h.os, k.tape.trans h.tape, k.output.trans h.output, Nat.le_trans h.size k.size, fun i hi hne => (k.block i (Nat.lt_of_lt_of_le hi h.size) (fun e => by have := (ho.lt i e.symm).1; omega)).trans (h.block i hi hne)⟩

set_option maxRecDepth 100000 in
set_option maxHeartbeats 2000000 in
theorem options_any (B : Nat) (S0 : ByteArray) (w : World) (h : Bx w B 60 #[.string S0]) (hs : S0.size ≤ 40) : Calls Try.prog 37 #[.pointer (some ⟨B, 0, none⟩)] w (OsPost w B (optO (S0.size + 1) S0.data.toList [])) := by
  obtain ⟨i0, hi, hz0, hz1, hz2⟩ := info_of infoPk
  obtain ⟨R, hR⟩ : ∃ R, optO (S0.size + 1) S0.data.toList [] = R := ⟨_, rfl⟩
  have hlt := h.lt
  have H0 := Lib.hid (And.intro h hR)
  rw [hR]
  have b0 := h.c 0 rfl
  clear h hR
  go_enter Try.func37, Try.ntmps37
  go_wp2_with fail
  go_loopw [3] (fun l wr => OiRel w B R l wr) (fun _ wr => szB wr B)
  case atStart => exact ⟨S0, [], S0.size + 1, H0.out.1, World.ownsRow_nil _ _ _ _, World.grownBy.refl _ _, Nat.lt_succ_self _, by simpa using hs, H0.out.2⟩
  case round =>
    clear H0 b0 hs
    obtain ⟨S, acc, f, hbx, hrg, hg, hf, hsz, hR⟩ := hrel
    obtain ⟨f, rfl⟩ : ∃ q, f = q + 1 := ⟨f - 1, by omega⟩
    obtain ⟨a, c, rfl⟩ := own_slice hrg
    have HS := Lib.hid (And.intro hrg (And.intro hg hbx))
    have b0 := hbx.c 0 rfl
    have bf := hbx.f 0
    have hlr := hbx.lt
    have HM := Lib.hid (szB_of hbx)
    clear hrg hg hbx
    by_cases h0 : S.size = 0
    · have hl : S.data.toList = [] := List.length_eq_zero_iff.mp (by rw [sz_list]; exact h0)
      rw [oo_end _ _ _ (.inl hl)] at hR
      have HR := Lib.hid hR.symm
      have hS0 : ¬ (0 : Int) < (S.size : Int) := by omega
      have hS1 : ¬ 0 < S.size := by omega
      clear hR hl h0
      go_wp2_with fail
      go_ret
      exact ⟨HS.out.2.1, .inl ⟨acc, a, c, HR.out, rfl, HS.out.1⟩⟩
    · have hp : 0 < S.size := by omega
      have hpi : (0 : Int) < (S.size : Int) := by omega
      have hb := ba_at S 0 hp
      have hne : ¬ S.data.toList = [] := fun e => by have := sz_list S; rw [e] at this; simp at this; omega
      by_cases e0 : (S[0].toNat : Int) = 0
      · have hz : S.data.toList.getD 0 0 = 0 := by rw [hb]; exact (byte_eq S[0] 0 (by omega)).mpr e0
        rw [oo_end _ _ _ (.inr hz)] at hR
        have HR := Lib.hid hR.symm
        have eb : ((S[0].toNat : Int) == 0) = true := by simpa using e0
        clear hR hz hb hne
        go_wp2_with fail
        go_ret
        exact ⟨HS.out.2.1, .inl ⟨acc, a, c, HR.out, rfl, HS.out.1⟩⟩
      · have hn0 : ¬ (S.data.toList = [] ∨ S.data.toList.getD 0 0 = 0) := by
          rintro (h | h)
          · exact hne h
          · exact e0 ((byte_eq S[0] 0 (by omega)).mp (by rw [← hb]; exact h))
        have eb : ((S[0].toNat : Int) == 0) = false := by simpa using e0
        have h1i : (1 : Int) ≤ (S.size : Int) := by omega
        have h1n : 1 ≤ S.size := by omega
        by_cases e1 : (S[0].toNat : Int) = 1
        · have hz : S.data.toList.getD 0 0 = 1 := by rw [hb]; exact (byte_eq S[0] 1 (by omega)).mpr e1
          rw [oo_fill _ _ _ hn0 hz, ← ba_rest] at hR
          have HR := Lib.hid hR
          have eb1 : ((S[0].toNat : Int) == 1) = true := by simpa using e1
          have HES := Lib.hid (es_eq S 1)
          clear hR hz hb hne hn0
          have HB := Lib.hid (oy_bs (v := .string (S.extract 1 S.size)) HS.out.2.2)
          have HG := Lib.hid (grownBy_trans HS.out.2.1 (grownBy_set wr B 0 (.string (S.extract 1 S.size))))
          have HO := Lib.hid (World.ownsRow.kept HS.out.1 (grownBy_set wr B 0 (.string (S.extract 1 S.size))) (row_ne2 HS.out.1 hlt))
          go_wp2_with fail
          go_roundw
          case rel => exact ⟨S.extract 1 S.size, acc, f, HB.out, HO.out, HG.out, by rw [HES.out]; omega, by rw [HES.out]; omega, HR.out⟩
          case measure => rw [szB_of HB.out, HM.out, HES.out]; omega
        · have hn1 : ¬ S.data.toList.getD 0 0 = 1 := fun h => e1 ((byte_eq S[0] 1 (by omega)).mp (by rw [← hb]; exact h))
          have eb1 : ((S[0].toNat : Int) == 1) = false := by simpa using e1
          by_cases hw : whole S.data.toList
          · obtain ⟨h1nn, hw2, hw3⟩ := whole_at S hw
            have HES := Lib.hid (es_eq S S[1].toNat)
            rw [oo_more _ _ _ hn0 hn1 hw, hb, ba_at S 1 h1nn, ← ba_rest] at hR
            have hbody := bod_eq S h1nn
            have HPS := Lib.hid (show pksV (acc ++ [((S[0].toNat : Int), bodyL S.data.toList)]) = pksV acc ++ [.int .i64 (S[0].toNat : Int), .string (S.extract 2 S[1].toNat)] by rw [pksV_snoc, hbody])
            have HR := Lib.hid hR
            have HY := Lib.hid (And.intro (show ¬ S[1].toNat < 2 by omega) (And.intro (show ¬ S.size < S[1].toNat by omega) (And.intro hw2 hw3)))
            clear hR hb hne hn0 hn1 hw hbody hw2 hw3
            go_wp2_with fail
            refine (option_yes B S _ HS.out.2.2 (by omega) h1nn HY.out.1 HY.out.2.1).mono ?_
            rintro e w8 ⟨rfl, hg, hbx⟩
            have H8 := Lib.hid (And.intro (grownBy_trans HS.out.2.1 hg) (And.intro hbx (World.ownsRow.kept HS.out.1 hg (row_ne2 HS.out.1 hlt))))
            clear hg hbx b0 bf
            go_wp2_with (at_builtin; refine wpList_append_own _ rfl _ _ 25 rfl w.heap.size 43 i0 _ 2 24 Try.underlying25 hi hz0 hz1 hz2 rfl (by decide) _ _ _ rfl (H8.out.2.2.alloc _) ⟨w8.heap.size, 0, none⟩ 1 1 [.int .i64 (S[0].toNat : Int), .string (S.extract 2 S[1].toNat)] rfl rfl ?c1 ?c2 ?c3 ?c4 ?c5 ?_)
            try (case c1 => exact pair_new _ _ _ _ _ rfl)
            case c2 => simp [Value.oneCell']
            case c3 => unfold maxLen; omega
            case c4 => omega
            case c5 => have := H8.out.1.size; simp; omega
            intro v' wz hown1 hg1 _
            have HBZ := Lib.hid ((H8.out.2.1.alloc (.cells #[.int .i64 (S[0].toNat : Int), .string (S.extract 2 S[1].toNat)] 43)).kept hg1 (row_ne H8.out.2.2 hlt))
            have HW := Lib.hid (And.intro hown1 (row_grow (oy_al H8.out.1 (.cells #[.int .i64 (S[0].toNat : Int), .string (S.extract 2 S[1].toNat)] 43)) (H8.out.2.2.alloc _) hg1))
            clear hown1 hg1
            go_wp2_with fail
            go_roundw
            case rel => exact ⟨S.extract S[1].toNat S.size, acc ++ [((S[0].toNat : Int), bodyL S.data.toList)], f, HBZ.out, by rw [HPS.out, List.length_append]; exact HW.out.1, HW.out.2, by rw [HES.out]; have := HY.out.2.2; omega, by rw [HES.out, List.length_append, List.length_singleton]; have := HY.out.2.2; omega, HR.out⟩
            case measure => rw [szB_of HBZ.out, HM.out, HES.out]; have := HY.out.2.2; omega
          · rw [oo_bad _ _ _ hn0 hn1 hw] at hR
            have HR := Lib.hid hR.symm
            have HW := Lib.hid hw
            clear hR hb hne hn0 hn1 hw
            go_wp2_with fail
            refine (option_no B S _ HS.out.2.2 (by omega) HW.out).mono ?_
            rintro e w8 ⟨rfl, hg⟩
            exact ⟨rfl, grownBy_trans HS.out.2.1 (gE hg), .inr ⟨HR.out, rfl⟩⟩

theorem catch_panicking (p : Addr) (x : Bool) (u : TypeId) (pv : Value) (older : List PanicEntry) (w : World) (hc : w.cell? p = some (.bool x)) (hz : w.frozen? p = false) :
    CallsD Try.prog 49 #[.pointer (some p)] (.panicking ({ v := .iface u pv, recovered := false } :: older)) w fun e u' w' =>
      e = .returned (.tuple #[]) ∧ u' = .panicking ({ v := .iface u pv, recovered := true } :: older) ∧ w' = w.setCell p (.bool false) := by
  refine callsD_of_wpS Try.func49 rfl fun c₀ cs hu => ?_
  apply wpS_seq
  apply wpS_region
  simp [wpOpsS, go_sem, recoverD, hu, Try.ntmps49, Exit.thenS]
  refine wpS_cond (t := true) (by simp [Act.eval, Array.replicate]) ?_
  simp only [if_true]
  apply wpS_region
  simp [wpOpsS, go_sem, hc, hz, bodyPostS, results, Try.results49]

theorem catch_idle (p : Addr) (w : World) :
    CallsD Try.prog 49 #[.pointer (some p)] .returning w fun e u' w' => e = .returned (.tuple #[]) ∧ u' = .returning ∧ w' = w := by
  refine callsD_of_wpS Try.func49 rfl fun c₀ cs hu => ?_
  apply wpS_seq
  apply wpS_region
  simp [wpOpsS, go_sem, recoverD, hu, Try.ntmps49, Exit.thenS]
  refine wpS_cond (t := false) (by simp [Act.eval, Array.replicate]) ?_
  simp only [Bool.false_eq_true, if_false]
  refine wpS_of_wp (wp_skip ?_)
  cases c₀
  simp_all [bodyPostS, results, Try.results49]



def CoPost (w : World) (B C : Nat) (R : Option (List Pk)) (e : Ending) (w' : World) : Prop :=
  KeptBut (fun k => k = B ∨ k = C) w w' ∧ ((∃ r a c, R = some r ∧ e = .returned (.tuple #[]) ∧ Bx w' C 25 #[.slice a r.length c] ∧ w'.ownsRow w.heap.size 43 2 (.slice a r.length c) r.length (pksV r)) ∨ (R = none ∧ e = .panicked [PE]))

set_option maxRecDepth 100000 in
set_option maxHeartbeats 1000000 in
theorem clos_any (B C : Nat) (S0 : ByteArray) (w : World) (h : Bx w B 60 #[.string S0]) (hC : Bx w C 25 #[.slice none 0 0]) (hBC : B ≠ C) (hs : S0.size ≤ 40) : Calls Try.prog 36 #[.pointer (some ⟨B, 0, none⟩), .pointer (some ⟨C, 0, none⟩)] w (CoPost w B C (optO (S0.size + 1) S0.data.toList [])) := by
  generalize hR : optO (S0.size + 1) S0.data.toList [] = R
  have H := Lib.hid (And.intro h (And.intro hC hR))
  clear h hC hR
  go_enter Try.func36, Try.ntmps36
  go_wp2_with fail
  refine (options_any B S0 _ H.out.1 hs).mono ?_
  rintro e w1 ⟨hg, h⟩
  rw [H.out.2.2] at h
  have hC1 := H.out.2.1.kept hg (by simp; omega)
  rcases h with ⟨r, a, c, hr, rfl, ho⟩ | ⟨hr, rfl⟩
  · have c0 := hC1.c 0 rfl
    have f0 := hC1.f 0
    have HC := Lib.hid (And.intro hC1 (And.intro hg (And.intro ho hr)))
    clear hC1 hg ho hr
    go_wp2_with fail
    go_end0
    have hW := grownBy_set w1 C 0 (.slice a r.length c)
    have hlt : C < w.heap.size := H.out.2.1.lt
    exact ⟨(KeptBut.of HC.out.2.1 (fun k e _ => by simp at e; exact .inl e.symm)).trans (KeptBut.of hW (fun k e _ => by simp at e; exact .inr e.symm)), .inl ⟨r, a, c, HC.out.2.2.2, rfl, oy_bs HC.out.1, World.ownsRow.kept HC.out.2.2.1 hW (row_ne2 HC.out.2.2.1 hlt)⟩⟩
  · exact ⟨rfl, KeptBut.of hg (fun k e _ => by simp at e; exact .inl e.symm), .inr ⟨hr, rfl⟩⟩

def FoPost (w : World) (B C : Nat) (R : Option (List Pk)) (e : Ending) (w' : World) : Prop :=
  KeptBut (fun k => k = B ∨ k = C) w w' ∧ ((∃ r a c, R = some r ∧ e = .returned (.bool true) ∧ Bx w' C 25 #[.slice a r.length c] ∧ w'.ownsRow w.heap.size 43 2 (.slice a r.length c) r.length (pksV r)) ∨ (R = none ∧ e = .returned (.bool false)))

set_option maxRecDepth 100000 in
set_option maxHeartbeats 1000000 in
theorem fin_any (B C : Nat) (S0 : ByteArray) (w : World) (h : Bx w B 60 #[.string S0]) (hC : Bx w C 25 #[.slice none 0 0]) (hBC : B ≠ C) (hs : S0.size ≤ 40) :
    Calls Try.prog 35 #[.func (Fn.func 36) #[] #[.pointer (some ⟨B, 0, none⟩), .pointer (some ⟨C, 0, none⟩)]] w (FoPost w B C (optO (S0.size + 1) S0.data.toList [])) := by
  have hB := h.lt
  have hCl := hC.lt
  have H := Lib.hid (And.intro h hC)
  clear h hC
  have hmf : ∀ (fn : Fn) (first cap : Array Value) (w : World), (Instr.makeFunc fn first cap).run Try.prog w = .ok (.func fn first cap) w := fun _ _ _ _ => rfl
  go_enter_defers Try.func35, Try.ntmps35
  go_wp2_with fail
  have hA : w.grownBy (w.alloc (.cells #[.bool false] 4)) none := World.grownBy_alloc _ _ _
  refine (clos_any B C S0 _ (H.out.1.keep hA) (H.out.2.keep hA) hBC hs).mono ?_
  rintro e w1 ⟨hk, hh⟩
  have d0 : w1.cell? ⟨w.heap.size, 0, none⟩ = some (.bool false) := hk.cell (by go_simp) (by simp; omega)
  have df : w1.frozen? ⟨w.heap.size, 0, none⟩ = false := hk.frozen (a := ⟨w.heap.size, 0, none⟩) (v := .bool false) (by go_simp) (by simp; omega) (by go_simp)
  have hl1 : w.heap.size < w1.heap.size := Nat.lt_of_lt_of_le (by simp) hk.size
  rcases hh with ⟨r, a, c, hr, rfl, hbx, ho⟩ | ⟨hr, rfl⟩
  · have HK := Lib.hid (And.intro hr (And.intro hbx (And.intro ho ((KeptBut.of hA (fun k e _ => by cases e)).trans hk))))
    clear hr hbx ho hk
    go_wp2_with fail
    refine leaves_cons (f := 49) (args := #[.pointer (some ⟨w.heap.size, 0, none⟩)]) (by simp) (by simp [go_sem]) ?_
    refine (catch_idle ⟨w.heap.size, 0, none⟩ _).mono ?_
    rintro e u' w'' ⟨rfl, rfl, rfl⟩
    have hW : w1.grownBy (w1.setCell ⟨w.heap.size, 0, none⟩ (.bool true)) (some w.heap.size) := grownBy_set _ _ _ _
    simp [Leaves, settle, results, Try.results35, go_sem, d0]
    refine ⟨⟨HK.out.2.2.2.os, HK.out.2.2.2.tape, HK.out.2.2.2.output, Nat.le_trans HK.out.2.2.2.size hW.size, fun k hk hn => (hW.block k (Nat.lt_of_lt_of_le hk HK.out.2.2.2.size) (by simp; omega)).trans (HK.out.2.2.2.block k hk hn)⟩, .inl ⟨r, a, c, HK.out.1, rfl, HK.out.2.1.kept hW (by simp; omega), ?_⟩⟩
    have hq := HK.out.2.2.1
    exact own_base (World.ownsRow.kept hq hW (row_ne2 hq (by simp))) (by simp)
  · have HK := Lib.hid (And.intro hr ((KeptBut.of hA (fun k e _ => by cases e)).trans hk))
    clear hk hr
    refine leaves_cons (f := 49) (args := #[.pointer (some ⟨w.heap.size, 0, none⟩)]) (by simp) (by simp [go_sem]) ?_
    refine (catch_panicking ⟨w.heap.size, 0, none⟩ false 9 _ [] _ d0 df).mono ?_
    rintro e u' w'' ⟨rfl, rfl, rfl⟩
    have hW : w1.grownBy (w1.setCell ⟨w.heap.size, 0, none⟩ (.bool false)) (some w.heap.size) := grownBy_set _ _ _ _
    simp [Leaves, settle, results, Try.results35, go_sem, d0]
    exact ⟨⟨HK.out.2.os, HK.out.2.tape, HK.out.2.output, Nat.le_trans HK.out.2.size hW.size, fun k hk hn => (hW.block k (Nat.lt_of_lt_of_le hk HK.out.2.size) (by simp; omega)).trans (HK.out.2.block k hk hn)⟩, .inr ⟨HK.out.1, rfl⟩⟩

set_option maxRecDepth 100000 in
set_option maxHeartbeats 1000000 in
theorem ro_impl (s : List UInt8) (w : World) (hs : s.length ≤ 9223372036854775807) : Calls Try.prog 13 #[.string ⟨s.toArray⟩] w (RoPost w (readO s)) := by
  have hmf : ∀ (fn : Fn) (first cap : Array Value) (w : World), (Instr.makeFunc fn first cap).run Try.prog w = .ok (.func fn first cap) w := fun _ _ _ _ => rfl
  by_cases hb : (40 : Int) < (s.length : Int)
  · have HV := Lib.hid (show readO s = ([], false) from if_pos (by omega))
    go_enter Try.func13, Try.ntmps13
    go_wp2_with fail
    exact bodyPost_ret (v := .tuple #[.slice none 0 0, .bool false]) (by simp [results, Try.results13, go_sem]) rfl ⟨none, 0, by rw [HV.out]; rfl, World.grownBy.refl _ _, by rw [HV.out]; exact World.ownsRow_nil _ _ _ _⟩
  · have HV := Lib.hid (show readO s = outO (optO (s.length + 1) s []) by rw [readO, if_neg (by omega)])
    have hs40 : s.length ≤ 40 := by omega
    have h1 := Bx.new w 60 #[.string ⟨s.toArray⟩]
    have g1 := World.grownBy_alloc w (.cells #[.string ⟨s.toArray⟩] 60) none
    have h2 := Bx.new (w.alloc (.cells #[.string ⟨s.toArray⟩] 60)) 25 #[.slice none 0 0]
    have g2 := World.grownBy_alloc (w.alloc (.cells #[.string ⟨s.toArray⟩] 60)) (.cells #[.slice none 0 0] 25) none
    rw [World.size_alloc] at h2
    have H := Lib.hid (And.intro (h1.keep g2) (And.intro h2 (grownBy_trans g1 g2)))
    have hz : ((w.alloc (.cells #[.string ⟨s.toArray⟩] 60)).alloc (.cells #[.slice none 0 0] 25)).heap.size = w.heap.size + 1 + 1 := by rw [World.size_alloc, World.size_alloc]
    have HZ := Lib.hid hz
    clear h1 g1 h2 g2 hz
    go_enter Try.func13, Try.ntmps13
    go_wp2_with fail
    generalize (w.alloc (.cells #[.string ⟨s.toArray⟩] 60)).alloc (.cells #[.slice none 0 0] 25) = w2 at *
    refine (fin_any w.heap.size (w.heap.size + 1) ⟨s.toArray⟩ w2 H.out.1 H.out.2.1 (by omega) hs40).mono ?_
    rintro e w3 ⟨hk, hh⟩
    have HG := Lib.hid (KeptBut.grown H.out.2.2 hk (fun i hi => by omega))
    clear hk
    rcases hh with ⟨r, a, c, hr, rfl, hbx, ho⟩ | ⟨hr, rfl⟩
    · have c0 := hbx.c 0 rfl
      have HH := Lib.hid (And.intro (show readO s = (r, true) by rw [HV.out]; show outO (optO (s.length + 1) s []) = _; rw [show optO (s.length + 1) s [] = some r from hr]; rfl) (own_base ho (by rw [HZ.out]; omega : w.heap.size ≤ w2.heap.size)))
      clear hr hbx ho
      go_wp2_with fail
      exact bodyPost_ret (v := .tuple #[.slice a r.length c, .bool true]) (by simp [results, Try.results13, go_sem]) rfl ⟨a, c, by rw [HH.out.1], HG.out, by rw [HH.out.1]; exact HH.out.2⟩
    · have HH := Lib.hid (show readO s = ([], false) by rw [HV.out]; show outO (optO (s.length + 1) s []) = _; rw [show optO (s.length + 1) s [] = none from hr]; rfl)
      clear hr
      go_wp2_with fail
      exact bodyPost_ret (v := .tuple #[.slice none 0 0, .bool false]) (by simp [results, Try.results13, go_sem]) rfl ⟨none, 0, by rw [HH.out]; rfl, HG.out, by rw [HH.out]; exact World.ownsRow_nil _ _ _ _⟩

end Go.Proofs.Ytefpnbmjcailgaa
