/- The bytes of options: the program and the model. -/
import Derived.Test.YtefpnbmjcailgaaOp
import Derived.Test.YtefpnbmjcailgaaOpX
import Derived.Test.YtefpnbmjcailgaaBxO
import Derived.Test.YtefpnbmjcailgaaBwl
namespace Go.Proofs.Ytefpnbmjcailgaa
open Go.RowKit

theorem writek_any (B b : Nat) (bs : List Value) (s : ByteArray) (w : World) (h : Lib.IsBuilderF 50 5 B b bs w) (hlen : bs.length + s.size ≤ 140737488355328) (hBw : B ≤ w.heap.size) :
    Calls Try.prog 29 #[.pointer (some ⟨b, 0, none⟩), .string s] w fun e w' => e = .returned (.tuple #[.int .i64 s.size, .nilIface]) ∧ (Lib.BuilderAtF 50 5 B b (.pointer (some ⟨b, 0, none⟩)) (bs ++ Lib.strCells s) w' ∧ Below B w w' ∧ Lib.OthersKept 5 (some b) w w') :=
  Any.Builder_WriteString_k (ρ := bw_ren) lay_ws bw_x B b bs s w h hlen hBw
theorem bytek_any (B b : Nat) (bs : List Value) (c : Int) (w : World) (h : Lib.IsBuilderF 50 5 B b bs w) (hlen : bs.length + 1 ≤ 140737488355328) (hBw : B ≤ w.heap.size) :
    Calls Try.prog 32 #[.pointer (some ⟨b, 0, none⟩), .int .u8 c] w fun e w' => e = .returned .nilIface ∧ (Lib.BuilderAtF 50 5 B b (.pointer (some ⟨b, 0, none⟩)) (bs ++ [.int .u8 c]) w' ∧ Below B w w' ∧ Lib.OthersKept 5 (some b) w w') :=
  Any.Builder_WriteByte_k (ρ := bw_ren) lay_wb bw_x B b bs c w h hlen hBw
theorem lenf_any (B b : Nat) (bs : List Value) (w : World) (h : Lib.IsBuilderF 50 5 B b bs w) :
    Calls Try.prog 31 #[.pointer (some ⟨b, 0, none⟩)] w fun e w' => e = .returned (.int .i64 bs.length) ∧ w' = w := Try.Builder_Len_f B b bs w h
theorem stringf_any (B b : Nat) (l : List UInt8) (w : World) (h : Lib.IsBuilderF 50 5 B b (Lib.byteCells l) w) (hBw : B ≤ w.heap.size) :
    Calls Try.prog 33 #[.pointer (some ⟨b, 0, none⟩)] w fun e w' => e = .returned (.string ⟨l.toArray⟩) ∧ (Lib.IsBuilderF 50 5 B b (Lib.byteCells l) w' ∧ Below B w w') := Try.Builder_String_any_f B b l w h hBw

def optB (x : Pk) : List UInt8 := UInt8.ofNat x.1.toNat :: UInt8.ofNat (2 + x.2.length) :: x.2
def optsT (l : List Pk) : List UInt8 := l.flatMap optB
def pad4 (s : List UInt8) : List UInt8 := s ++ List.replicate ((4 - s.length % 4) % 4) 1
def optsL (l : List Pk) : List UInt8 := if opsP l then pad4 (optsT l) else []
theorem optB_len (x : Pk) : (optB x).length = 2 + x.2.length := by simp [optB]; omega
theorem optB_eq (k : Int) (m : List UInt8) : optB (k, m) = [UInt8.ofNat k.toNat] ++ ([UInt8.ofNat (2 + (m.length : Int)).toNat] ++ m) := by
  have e : (2 + (m.length : Int)).toNat = 2 + m.length := by omega
  rw [e]
  rfl
theorem optsT_len : ∀ l : List Pk, (optsT l).length = szO l
  | [] => rfl
  | x :: l => by
    have := optsT_len l
    simp only [optsT, List.flatMap_cons, List.length_append] at this ⊢
    rw [this, optB_len, szO]
theorem optsT_next (l : List Pk) (j : Nat) (h : j < l.length) : optsT (l.take (j + 1)) = optsT (l.take j) ++ optB l[j] := by
  rw [List.take_succ_eq_append_getElem h, optsT, List.flatMap_append]
  simp [optsT]
theorem szO_take (l : List Pk) (j : Nat) : szO (l.take j) ≤ szO l := by
  have e : szO l = szO (l.take j) + szO (l.drop j) := by rw [← szO_app, List.take_append_drop]
  omega
theorem b1_of (x : Int) (h0 : 0 ≤ x) (h1 : x < 256) : beL x.toNat 1 = [UInt8.ofNat x.toNat] := by
  rw [beL_1, Nat.mod_eq_of_lt (by omega)]
theorem put1_I (x : Int) (w : World) (h0 : 0 ≤ x) (h1 : x < 256) : Calls Try.prog 30 #[.int .i64 x, .int .i64 1] w (StrPost w [UInt8.ofNat x.toNat]) := by
  obtain ⟨n, rfl⟩ := Int.eq_ofNat_of_zero_le h0
  have h := put_be_1 n w (by omega)
  rw [show beL n 1 = [UInt8.ofNat ((n : Int).toNat)] from b1_of n h0 h1] at h
  exact h
theorem put1_S (x : Int) (w : World) (h0 : 0 ≤ x) (h1 : x < 256) : Calls Try.prog 27 #[.int .i64 x, .int .i64 1] w (StrPost w [UInt8.ofNat x.toNat]) := by
  obtain ⟨n, rfl⟩ := Int.eq_ofNat_of_zero_le h0
  have h := be_any n 1 w (by omega) (by omega) (by omega)
  rw [show beL n 1 = [UInt8.ofNat ((n : Int).toNat)] from b1_of n h0 h1] at h
  exact h
theorem bldf_kept {T e : TypeId} {B b : Nat} {bs : List Value} {w w' : World} (h : Lib.IsBuilderF T e B b bs w) (hg : w.grownBy w' none) : Lib.IsBuilderF T e B b bs w' := by
  have key : ∀ p, Lib.BuilderAtF T e B b p bs w → Lib.BuilderAtF T e B b p bs w' := by
    rintro p ⟨hB, v, hb, hown, hne⟩
    exact ⟨hB, v, (hg.block b (Array.getElem?_eq_some_iff.1 hb).1 (by simp)).trans hb, hown.kept hg (by cases v.ownBlock <;> simp), hne⟩
  rcases h with h | h
  · exact .inl (key _ h)
  · exact .inr (key _ h)
theorem bldf_at {T e : TypeId} {B b : Nat} {bs : List Value} {w : World} (h : Lib.IsBuilderF T e B b bs w) : B ≤ w.heap.size := by
  rcases h with ⟨hB, v, hb, _⟩ | ⟨hB, v, hb, _⟩
  · exact Nat.le_trans hB (Nat.le_of_lt (Array.getElem?_eq_some_iff.1 hb).1)
  · exact Nat.le_trans hB (Nat.le_of_lt (Array.getElem?_eq_some_iff.1 hb).1)
theorem bx_ok {W W' : World} {O b : Nat} {t e : TypeId} {xs : Array Value} (h : Bx W O t xs) (k : Lib.OthersKept e (some b) W W') (hb : O ≠ b) (ht : t ≠ e) : Bx W' O t xs :=
  k O _ h (by simpa using hb) (fun c fz => by simp; intro _ e2; exact absurd e2 ht)

theorem rep_snoc (k : Nat) : List.replicate k (1 : UInt8) ++ [1] = List.replicate (k + 1) 1 := by rw [List.replicate_succ']
theorem ob_cat (t m : List UInt8) (k : Int) : ({ data := t.toArray } ++ { data := #[UInt8.ofNat k.toNat] } ++ { data := #[UInt8.ofNat (2 + (m.length : Int)).toNat] } ++ { data := m.toArray } : ByteArray) = ⟨(t ++ optB (k, m)).toArray⟩ := by
  show ((⟨t.toArray⟩ : ByteArray) ++ ⟨[UInt8.ofNat k.toNat].toArray⟩ ++ ⟨[UInt8.ofNat (2 + (m.length : Int)).toNat].toArray⟩ ++ ⟨m.toArray⟩) = _
  rw [ba_append, ba_append, ba_append, optB_eq]
  simp
theorem ob_cat1 (t : List UInt8) (k : Nat) : ({ data := (t ++ List.replicate k 1).toArray } ++ { data := #[1] } : ByteArray) = ⟨(t ++ List.replicate (k + 1) 1).toArray⟩ := by
  show ((⟨(t ++ List.replicate k 1).toArray⟩ : ByteArray) ++ ⟨[1].toArray⟩) = _
  rw [ba_append, List.append_assoc, rep_snoc]
def fillN (n : Nat) : Nat := (4 - n % 4) % 4
def ObRel (w : World) (l : List Pk) (v i : Value) (wr : World) : Prop :=
  ∃ j : Nat, j ≤ l.length ∧ i = .int .i64 j ∧ v = .string ⟨(optsT (l.take j)).toArray⟩ ∧ w.grownBy wr none
def PdRel (w : World) (t : List UInt8) (v : Value) (wr : World) : Prop :=
  ∃ k : Nat, k ≤ fillN t.length ∧ v = .string ⟨(t ++ List.replicate k 1).toArray⟩ ∧ w.grownBy wr none
theorem pad_more {n k : Nat} (h : k ≤ fillN n) (hm : ¬ (n + k) % 4 = 0) : k + 1 ≤ fillN n := by unfold fillN at *; omega
theorem pad_done {n k : Nat} (h : k ≤ fillN n) (hm : (n + k) % 4 = 0) : k = fillN n := by unfold fillN at *; omega
theorem fill_le (n : Nat) : fillN n ≤ 3 := by unfold fillN; omega

set_option maxRecDepth 100000 in
set_option maxHeartbeats 2000000 in
theorem ob_spec (a : Option Addr) (c : Nat) (l : List Pk) (w : World) (h : PkAt w a l) (hl0 : l.length ≤ 1048576) (hm : ∀ x ∈ l, (x.2.length : Int) ≤ 9223372036854775807) : Calls Try.prog 8 #[.slice a l.length c] w (StrPost w (optsL l)) := by
  have H := Lib.hid (And.intro h hm)
  clear h hm
  by_cases hP : opsP l
  · have HP := Lib.hid hP
    have HY := Lib.hid (ops_yes hP)
    have HV := Lib.hid (show optsL l = pad4 (optsT l) from if_pos hP)
    have h20 := hP.1
    clear hP
    go_enter Try.func8, Try.ntmps8
    go_wp2_with fail
    refine (ops_spec _ _ _ _ H.out.1 hl0 H.out.2).mono ?_
    rintro e w1 ⟨rfl, hg⟩
    rw [HY.out]
    have H1 := Lib.hid hg
    clear hg
    go_wp2_with fail
    go_loopw [3, 4] (fun v i wr => ObRel w l v i wr) (fun _ i _ => l.length - (intOf i).toNat)
    case atStart => exact ⟨0, Nat.zero_le _, rfl, rfl, H1.out⟩
    case round =>
      obtain ⟨j, hj, rfl, rfl, hg⟩ := hrel
      have HS := Lib.hid hg
      clear hg
      have HTL := Lib.hid (optsT_len (l.take j))
      have HTB := Lib.hid (show szO (l.take j) ≤ 40 from Nat.le_trans (szO_take l j) HP.out.2.2)
      by_cases hlt : j < l.length
      · rcases (H.out.1.kept HS.out) with h0 | ⟨b, off, rfl, hb, hc⟩
        · rw [h0] at hlt
          simp at hlt
        · obtain ⟨c0, c1⟩ := hc j hlt
          have hx := HP.out.2.1 l[j] (List.getElem_mem hlt)
          have HN := Lib.hid (optsT_next l j hlt)
          clear hc
          generalize l[j] = x at *
          obtain ⟨k, m⟩ := x
          dsimp only [opP] at c0 c1 hx
          obtain ⟨hk0, hk1, hm38⟩ := hx
          have HK := Lib.hid (optB_eq k m)
          have hlt' : (j : Int) < (l.length : Int) := by omega
          have hj0 : (0 : Int) ≤ (j : Int) := by omega
          have hw2 : IntKind.i64.wrap (2 + (m.length : Int)) = 2 + (m.length : Int) := IntWalk.i64_in _ (by omega)
          have hb1 : ¬ 9223372036854775807 < (optsT (l.take j)).length + 1 := by rw [HTL.out]; have := HTB.out; omega
          have hb2 : ¬ 9223372036854775807 < (optsT (l.take j)).length + 1 + 1 := by rw [HTL.out]; have := HTB.out; omega
          have hb3 : ¬ 9223372036854775807 < (optsT (l.take j)).length + 1 + 1 + m.length := by rw [HTL.out]; have := HTB.out; omega
          generalize optsT (l.take j) = t at *
          go_wp2_with fail
          refine wp_region_held_drew (S := fun w' => w'.cell? ⟨b, off + j * 2, none⟩ = some (.int .i64 k) ∧ w'.cell? ⟨b, off + j * 2 + 1, none⟩ = some (.string ⟨m.toArray⟩) ∧ w.grownBy w' none) (by kernel_rfl) (⟨by first | assumption | (go_simp; done) | (simp [*]; done), by first | assumption | (go_simp; done) | (simp [*]; done), grownBy_trans (HS.out) grownBy_drew⟩) (fun hS => ?_)
          refine wpAnyH_take (i := 0) (v := ?_) rfl (by kernel_rfl) (by kernel_rfl) (by kernel_rfl) (fun _ _ _ h => h) (Or.inl ⟨by kernel_rfl, ?_⟩) hS ?_
          rotate_left
          · intro w' hSw
            obtain ⟨g0, g1, _⟩ := hSw
            first | (go_simp; done) | (go_simp; with_reducible rfl)
          simp only [List.getElem_toArray, List.getElem_cons_zero, Act.put, List.setIfInBounds_toArray, List.set_cons_zero, List.set_cons_succ]
          refine wpAnyH_take (i := 1) (v := ?_) rfl (by kernel_rfl) (by kernel_rfl) (by kernel_rfl) (fun _ _ _ h => h) (Or.inl ⟨by kernel_rfl, ?_⟩) hS ?_
          rotate_left
          · intro w' hSw
            obtain ⟨g0, g1, _⟩ := hSw
            first | (go_simp; done) | (go_simp; with_reducible rfl)
          simp only [List.getElem_toArray, List.getElem_cons_zero, List.getElem_cons_succ, Act.put, List.setIfInBounds_toArray, List.set_cons_zero, List.set_cons_succ]
          refine wpAnyH_take (i := 2) (v := ?_) rfl (by kernel_rfl) (by kernel_rfl) (by kernel_rfl) (fun _ _ _ h => h) (Or.inl ⟨by kernel_rfl, ?_⟩) hS ?_
          rotate_left
          · intro w' hSw
            obtain ⟨g0, g1, _⟩ := hSw
            first | (go_simp; done) | (go_simp; with_reducible rfl)
          simp only [List.getElem_toArray, List.getElem_cons_zero, List.getElem_cons_succ, Act.put, List.setIfInBounds_toArray, List.set_cons_zero, List.set_cons_succ]
          refine wpAnyH_take (i := 3) (v := ?_) rfl (by kernel_rfl) (by kernel_rfl) (by kernel_rfl) (fun _ _ _ h => h) (Or.inl ⟨by kernel_rfl, ?_⟩) hS ?_
          rotate_left
          · intro w' hSw
            obtain ⟨g0, g1, _⟩ := hSw
            first | (go_simp; done) | (go_simp; with_reducible rfl)
          simp only [List.getElem_toArray, List.getElem_cons_zero, List.getElem_cons_succ, Act.put, List.setIfInBounds_toArray, List.set_cons_zero, List.set_cons_succ]
          refine wpAnyH_take (i := 4) (v := ?_) rfl (by kernel_rfl) (by kernel_rfl) (by kernel_rfl) (fun _ _ _ h => h) (Or.inl ⟨by kernel_rfl, ?_⟩) hS ?_
          rotate_left
          · intro w' hSw
            obtain ⟨g0, g1, _⟩ := hSw
            first | (go_simp; done) | (go_simp; with_reducible rfl)
          simp only [List.getElem_toArray, List.getElem_cons_zero, List.getElem_cons_succ, Act.put, List.setIfInBounds_toArray, List.set_cons_zero, List.set_cons_succ]
          refine wpAnyH_take (i := 5) (v := ?_) rfl (by kernel_rfl) (by kernel_rfl) (by kernel_rfl) (fun _ _ _ h => h) (Or.inl ⟨by kernel_rfl, ?_⟩) hS ?_
          rotate_left
          · intro w' hSw
            obtain ⟨g0, g1, _⟩ := hSw
            first | (go_simp; done) | (go_simp; with_reducible rfl)
          simp only [List.getElem_toArray, List.getElem_cons_zero, List.getElem_cons_succ, Act.put, List.setIfInBounds_toArray, List.set_cons_zero, List.set_cons_succ]
          refine wpAnyH_take (i := 8) (v := ?_) rfl (by kernel_rfl) (by kernel_rfl) (by kernel_rfl) (fun _ _ _ h => h) (Or.inl ⟨by kernel_rfl, ?_⟩) hS ?_
          rotate_left
          · intro w' hSw
            obtain ⟨g0, g1, _⟩ := hSw
            first | (go_simp; done) | (go_simp; with_reducible rfl)
          simp only [List.getElem_toArray, List.getElem_cons_zero, List.getElem_cons_succ, Act.put, List.setIfInBounds_toArray, List.set_cons_zero, List.set_cons_succ]
          refine wpAnyH_take (i := 9) (v := ?_) rfl (by kernel_rfl) (by kernel_rfl) (by kernel_rfl) (fun _ _ _ h => h) (Or.inl ⟨by kernel_rfl, ?_⟩) hS ?_
          rotate_left
          · intro w' hSw
            obtain ⟨g0, g1, _⟩ := hSw
            first | (go_simp; done) | (go_simp; with_reducible rfl)
          simp only [List.getElem_toArray, List.getElem_cons_zero, List.getElem_cons_succ, Act.put, List.setIfInBounds_toArray, List.set_cons_zero, List.set_cons_succ]
          refine wpAnyH_take (i := 10) (v := ?_) rfl (by kernel_rfl) (by kernel_rfl) (by kernel_rfl) (fun _ _ _ h => h) (Or.inl ⟨by kernel_rfl, ?_⟩) hS ?_
          rotate_left
          · intro w' hSw
            obtain ⟨g0, g1, _⟩ := hSw
            first | (go_simp; done) | (go_simp; with_reducible rfl)
          simp only [List.getElem_toArray, List.getElem_cons_zero, List.getElem_cons_succ, Act.put, List.setIfInBounds_toArray, List.set_cons_zero, List.set_cons_succ]
          refine wpAnyH_take (i := 11) (v := ?_) rfl (by kernel_rfl) (by kernel_rfl) (by kernel_rfl) (fun _ _ _ h => h) (Or.inl ⟨by kernel_rfl, ?_⟩) hS ?_
          rotate_left
          · intro w' hSw
            obtain ⟨g0, g1, _⟩ := hSw
            first | (go_simp; done) | (go_simp; with_reducible rfl)
          simp only [List.getElem_toArray, List.getElem_cons_zero, List.getElem_cons_succ, Act.put, List.setIfInBounds_toArray, List.set_cons_zero, List.set_cons_succ]
          refine wpAnyH_take (i := 12) (v := ?_) rfl (by kernel_rfl) (by kernel_rfl) (by kernel_rfl) (fun _ _ _ h => h) (Or.inl ⟨by kernel_rfl, ?_⟩) hS ?_
          rotate_left
          · intro w' hSw
            obtain ⟨g0, g1, _⟩ := hSw
            first | (go_simp; done) | (go_simp; with_reducible rfl)
          simp only [List.getElem_toArray, List.getElem_cons_zero, List.getElem_cons_succ, Act.put, List.setIfInBounds_toArray, List.set_cons_zero, List.set_cons_succ]
          refine wpAnyH_take (i := 13) (v := ?_) rfl (by kernel_rfl) (by kernel_rfl) (by kernel_rfl) (fun _ _ _ h => h) (Or.inl ⟨by kernel_rfl, ?_⟩) hS ?_
          rotate_left
          · intro w' hSw
            obtain ⟨g0, g1, _⟩ := hSw
            first | (go_simp; done) | (go_simp; with_reducible rfl)
          simp only [List.getElem_toArray, List.getElem_cons_zero, List.getElem_cons_succ, Act.put, List.setIfInBounds_toArray, List.set_cons_zero, List.set_cons_succ]
          refine wpAnyH_take (i := 14) (v := ?_) rfl (by kernel_rfl) (by kernel_rfl) (by kernel_rfl) (fun _ _ _ h => h) (Or.inl ⟨by kernel_rfl, ?_⟩) hS ?_
          rotate_left
          · intro w' hSw
            obtain ⟨g0, g1, _⟩ := hSw
            first | (go_simp; done) | (go_simp; with_reducible rfl)
          simp only [List.getElem_toArray, List.getElem_cons_zero, List.getElem_cons_succ, Act.put, List.setIfInBounds_toArray, List.set_cons_zero, List.set_cons_succ]
          refine wpAnyH_take (i := 17) (v := ?_) rfl (by kernel_rfl) (by kernel_rfl) (by kernel_rfl) (fun _ _ _ h => h) (Or.inl ⟨by kernel_rfl, ?_⟩) hS ?_
          rotate_left
          · intro w' hSw
            obtain ⟨g0, g1, _⟩ := hSw
            first | (go_simp; done) | (go_simp; with_reducible rfl)
          simp only [List.getElem_toArray, List.getElem_cons_zero, List.getElem_cons_succ, Act.put, List.setIfInBounds_toArray, List.set_cons_zero, List.set_cons_succ]
          refine wpAnyH_take (i := 18) (v := ?_) rfl (by kernel_rfl) (by kernel_rfl) (by kernel_rfl) (fun _ _ _ h => h) (Or.inl ⟨by kernel_rfl, ?_⟩) hS ?_
          rotate_left
          · intro w' hSw
            obtain ⟨g0, g1, _⟩ := hSw
            first | (go_simp; done) | (go_simp; with_reducible rfl)
          simp only [List.getElem_toArray, List.getElem_cons_zero, List.getElem_cons_succ, Act.put, List.setIfInBounds_toArray, List.set_cons_zero, List.set_cons_succ]
          refine wpAnyH_take (i := 19) (v := ?_) rfl (by kernel_rfl) (by kernel_rfl) (by kernel_rfl) (fun _ _ _ h => h) (Or.inl ⟨by kernel_rfl, ?_⟩) hS ?_
          rotate_left
          · intro w' hSw
            obtain ⟨g0, g1, _⟩ := hSw
            first | (go_simp; done) | (go_simp; with_reducible rfl)
          simp only [List.getElem_toArray, List.getElem_cons_zero, List.getElem_cons_succ, Act.put, List.setIfInBounds_toArray, List.set_cons_zero, List.set_cons_succ]
          refine wpAnyH_take (i := 20) (v := ?_) rfl (by kernel_rfl) (by kernel_rfl) (by kernel_rfl) (fun _ _ _ h => h) (Or.inl ⟨by kernel_rfl, ?_⟩) hS ?_
          rotate_left
          · intro w' hSw
            obtain ⟨g0, g1, _⟩ := hSw
            first | (go_simp; done) | (go_simp; with_reducible rfl)
          simp only [List.getElem_toArray, List.getElem_cons_zero, List.getElem_cons_succ, Act.put, List.setIfInBounds_toArray, List.set_cons_zero, List.set_cons_succ]
          refine wpAnyH_take (i := 21) (v := ?_) rfl (by kernel_rfl) (by kernel_rfl) (by kernel_rfl) (fun _ _ _ h => h) (Or.inl ⟨by kernel_rfl, ?_⟩) hS ?_
          rotate_left
          · intro w' hSw
            obtain ⟨g0, g1, _⟩ := hSw
            first | (go_simp; done) | (go_simp; with_reducible rfl)
          simp only [List.getElem_toArray, List.getElem_cons_zero, List.getElem_cons_succ, Act.put, List.setIfInBounds_toArray, List.set_cons_zero, List.set_cons_succ]
          refine wpAnyH_ready (rs := [6]) (by kernel_rfl) (List.cons_ne_nil _ _) ?_
          refine AllReadyH.cons rfl (fun K hK => ?_) AllReadyH.nil
          go_simp
          go_at_call 27
          refine (put1_S _ _ (by omega) (by omega)).mono ?_
          rintro e w2 ⟨rfl, hg⟩
          refine hK.out _ _ (⟨hg.cell (hS.1) (by simp), hg.cell (hS.2.1) (by simp), grownBy_trans (hS.2.2) hg⟩) (fun hS => ?_)
          clear hK
          try simp only [List.getElem_toArray, List.getElem_cons_zero, List.getElem_cons_succ, Act.put, List.setIfInBounds_toArray, List.set_cons_zero, List.set_cons_succ]
          refine wpAnyH_take (i := 7) (v := ?_) rfl (by kernel_rfl) (by kernel_rfl) (by kernel_rfl) (fun _ _ _ h => h) (Or.inl ⟨by kernel_rfl, ?_⟩) hS ?_
          rotate_left
          · intro w' hSw
            obtain ⟨g0, g1, _⟩ := hSw
            first | (go_simp; done) | (go_simp; with_reducible rfl)
          simp only [List.getElem_toArray, List.getElem_cons_zero, List.getElem_cons_succ, Act.put, List.setIfInBounds_toArray, List.set_cons_zero, List.set_cons_succ]
          refine wpAnyH_ready (rs := [15]) (by kernel_rfl) (List.cons_ne_nil _ _) ?_
          refine AllReadyH.cons rfl (fun K hK => ?_) AllReadyH.nil
          go_simp
          go_at_call 27
          refine (put1_S _ _ (by omega) (by omega)).mono ?_
          rintro e w3 ⟨rfl, hg⟩
          refine hK.out _ _ (⟨hg.cell (hS.1) (by simp), hg.cell (hS.2.1) (by simp), grownBy_trans (hS.2.2) hg⟩) (fun hS => ?_)
          clear hK
          try simp only [List.getElem_toArray, List.getElem_cons_zero, List.getElem_cons_succ, Act.put, List.setIfInBounds_toArray, List.set_cons_zero, List.set_cons_succ]
          refine wpAnyH_take (i := 16) (v := ?_) rfl (by kernel_rfl) (by kernel_rfl) (by kernel_rfl) (fun _ _ _ h => h) (Or.inl ⟨by kernel_rfl, ?_⟩) hS ?_
          rotate_left
          · intro w' hSw
            obtain ⟨g0, g1, _⟩ := hSw
            first | (go_simp; done) | (go_simp; with_reducible rfl)
          simp only [List.getElem_toArray, List.getElem_cons_zero, List.getElem_cons_succ, Act.put, List.setIfInBounds_toArray, List.set_cons_zero, List.set_cons_succ]
          refine wpAnyH_take (i := 22) (v := ?_) rfl (by kernel_rfl) (by kernel_rfl) (by kernel_rfl) (fun _ _ _ h => h) (Or.inl ⟨by kernel_rfl, ?_⟩) hS ?_
          rotate_left
          · intro w' hSw
            obtain ⟨g0, g1, _⟩ := hSw
            first | (go_simp; done) | (go_simp; with_reducible rfl)
          simp only [List.getElem_toArray, List.getElem_cons_zero, List.getElem_cons_succ, Act.put, List.setIfInBounds_toArray, List.set_cons_zero, List.set_cons_succ]
          refine wpAnyH_take (i := 23) (v := ?_) rfl (by kernel_rfl) (by kernel_rfl) (by kernel_rfl) (fun _ _ _ h => h) (Or.inl ⟨by kernel_rfl, ?_⟩) hS ?_
          rotate_left
          · intro w' hSw
            obtain ⟨g0, g1, _⟩ := hSw
            first | (go_simp; done) | (go_simp; with_reducible rfl)
          simp only [List.getElem_toArray, List.getElem_cons_zero, List.getElem_cons_succ, Act.put, List.setIfInBounds_toArray, List.set_cons_zero, List.set_cons_succ]
          refine wpAnyH_done (by kernel_rfl) ?_ _
          have hgw := hS.2.2
          go_wp2_with fail
          go_roundw
          case rel => exact ⟨j + 1, hlt, by go_num, by rw [HN.out, ob_cat], hgw⟩
          case measure => simp [intOf]; omega
      · obtain rfl : j = l.length := by omega
        rw [List.take_length] at HTL HTB ⊢
        have HZ := Lib.hid (And.intro HTL.out HTB.out)
        have htl : (optsT l).length ≤ 40 := by rw [HTL.out]; exact HTB.out
        clear HTL HTB
        generalize optsT l = t at *
        go_wp2_with fail
        go_loopw [3] (fun v wr => PdRel w t v wr) (fun v _ => fillN t.length + t.length - strL v)
        case atStart => exact ⟨0, Nat.zero_le _, by simp, HS.out⟩
        case round =>
          obtain ⟨k, hk, rfl, hg⟩ := hrel
          have HS2 := Lib.hid hg
          clear hg
          have hfl := fill_le t.length
          have hlen : ({ data := (t ++ List.replicate k 1).toArray } : ByteArray).size = t.length + k := by rw [str_size, List.length_append, List.length_replicate]
          have HLen := Lib.hid hlen
          by_cases hm4 : (t.length + k) % 4 = 0
          · have hb : (((t.length + k : Nat) : Int) % 4 == 0) = true := by simp; omega
            have HE := Lib.hid (pad_done hk hm4)
            clear hm4
            go_wp2_with fail
            go_ret
            exact ⟨ret_ba (by rw [HV.out, HE.out]; rfl), HS2.out⟩
          · have hb : (((t.length + k : Nat) : Int) % 4 == 0) = false := by simp; omega
            have HM := Lib.hid (pad_more hk hm4)
            clear hm4
            go_wp2_with fail
            go_roundw
            case rel => exact ⟨k + 1, HM.out, by rw [ob_cat1], HS2.out⟩
            case measure =>
              rw [ob_cat1]
              have h1 := HM.out
              simp only [strL, str_size, List.length_append, List.length_replicate]
              omega
  · have HY := Lib.hid (ops_no hP)
    have HV := Lib.hid (show optsL l = [] from if_neg hP)
    clear hP
    go_enter Try.func8, Try.ntmps8
    go_wp2_with fail
    refine (ops_spec _ _ _ _ H.out.1 hl0 H.out.2).mono ?_
    rintro e w1 ⟨rfl, hg⟩
    rw [HY.out]
    have H1 := Lib.hid hg
    clear hg
    go_wp2_with fail
    go_ret
    exact ⟨by rw [HV.out]; rfl, H1.out⟩

def ObiRel (w : World) (B : Nat) (l : List Pk) (i : Value) (wr : World) : Prop :=
  ∃ j : Nat, j ≤ l.length ∧ i = .int .i64 j ∧ w.grownBy wr none ∧ Lib.IsBuilderF 50 5 B B (Lib.byteCells (optsT (l.take j))) wr
def PdiRel (w : World) (B : Nat) (t : List UInt8) (wr : World) : Prop :=
  ∃ k : Nat, k ≤ fillN t.length ∧ w.grownBy wr none ∧ Lib.IsBuilderF 50 5 B B (Lib.byteCells (t ++ List.replicate k 1)) wr
theorem bldf_said {T e : TypeId} {B b : Nat} {l m : List UInt8} {w : World} (h : Lib.BuilderAtF T e B b (.pointer (some ⟨b, 0, none⟩)) (Lib.byteCells l ++ Lib.strCells ⟨m.toArray⟩) w) : Lib.IsBuilderF T e B b (Lib.byteCells (l ++ m)) w := by
  have e1 : Lib.byteCells l ++ Lib.strCells ⟨m.toArray⟩ = Lib.byteCells (l ++ m) := by simp [Lib.byteCells, Lib.strCells]
  rw [e1] at h
  exact .inr h
def bldN (B : Nat) (w : World) : Nat := match w.cell? ⟨B, 1, none⟩ with | some (.slice _ n _) => n | _ => 0
theorem bldN_of {T e : TypeId} {B : Nat} {bs : List Value} {w : World} (h : Lib.IsBuilderF T e B B bs w) : bldN B w = bs.length := by
  have key : ∀ p, Lib.BuilderAtF T e B B p bs w → bldN B w = bs.length := by
    rintro p ⟨hB, v, hb, hown, hne⟩
    have hc : w.cell? ⟨B, 1, none⟩ = some v := by simp [World.cell?, hb]
    unfold bldN
    rw [hc]
    rcases hown.2 with ⟨hv, h0⟩ | ⟨g, cap, cur, fz, hv, _⟩
    · rw [hv]; exact h0.symm
    · rw [hv]
  rcases h with h | h
  · exact key _ h
  · exact key _ h
theorem ob_cat3 (m : List UInt8) (k : Int) : ({ data := #[UInt8.ofNat k.toNat] } ++ { data := #[UInt8.ofNat (2 + (m.length : Int)).toNat] } ++ { data := m.toArray } : ByteArray) = ⟨(optB (k, m)).toArray⟩ := by
  show ((⟨[UInt8.ofNat k.toNat].toArray⟩ : ByteArray) ++ ⟨[UInt8.ofNat (2 + (m.length : Int)).toNat].toArray⟩ ++ ⟨m.toArray⟩) = _
  rw [ba_append, ba_append, optB_eq]
  simp

set_option maxRecDepth 100000 in
set_option maxHeartbeats 2000000 in
theorem ob_impl (a : Option Addr) (c : Nat) (l : List Pk) (w : World) (h : PkAt w a l) (hl0 : l.length ≤ 1048576) (hm : ∀ x ∈ l, (x.2.length : Int) ≤ 9223372036854775807) : Calls Try.prog 10 #[.slice a l.length c] w (StrPost w (optsL l)) := by
  have H := Lib.hid (And.intro h hm)
  clear h hm
  by_cases hP : opsP l
  · have HP := Lib.hid hP
    have HY := Lib.hid (ops_yes hP)
    have HV := Lib.hid (show optsL l = pad4 (optsT l) from if_pos hP)
    have h20 := hP.1
    clear hP
    go_enter Try.func10, Try.ntmps10
    go_wp2_with fail
    refine (ops_impl _ _ _ _ H.out.1 (by omega) H.out.2).mono ?_
    rintro e w1 ⟨rfl, hg⟩
    rw [HY.out]
    have hb := Lib.IsBuilderF.of (Lib.fresh_isBuilder 50 5 w1)
    have hg1 := grownBy_trans hg (World.grownBy_alloc w1 (.cells #[.pointer none, .slice none 0 0] 50) none)
    have hB : w.heap.size ≤ w1.heap.size := hg.size
    have H1 := Lib.hid (And.intro hb hg1)
    clear hg hb hg1
    go_wp2_with fail
    generalize hw0 : w1.alloc (.cells #[.pointer none, .slice none 0 0] 50) = w0 at *
    clear hw0
    obtain ⟨B, hBe⟩ : ∃ B, w1.heap.size = B := ⟨_, rfl⟩
    rw [hBe] at H1 hB ⊢
    clear hBe
    go_loopw [12] (fun i wr => ObiRel w B l i wr) (fun i _ => l.length - (intOf i).toNat)
    case atStart => exact ⟨0, Nat.zero_le _, rfl, H1.out.2, H1.out.1⟩
    case round =>
      obtain ⟨j, hj, rfl, hg, hbld⟩ := hrel
      have HS := Lib.hid (And.intro hg hbld)
      clear hg hbld
      have HTL := Lib.hid (optsT_len (l.take j))
      have HTB := Lib.hid (show szO (l.take j) ≤ 40 from Nat.le_trans (szO_take l j) HP.out.2.2)
      by_cases hlt : j < l.length
      · rcases (H.out.1.kept HS.out.1) with h0 | ⟨b, off, rfl, hb, hc⟩
        · rw [h0] at hlt
          simp at hlt
        · obtain ⟨c0, c1⟩ := hc j hlt
          have hx := HP.out.2.1 l[j] (List.getElem_mem hlt)
          have HN := Lib.hid (optsT_next l j hlt)
          clear hc
          generalize l[j] = x at *
          obtain ⟨k, m⟩ := x
          dsimp only [opP] at c0 c1 hx
          obtain ⟨hk0, hk1, hm38⟩ := hx
          have hlt' : (j : Int) < (l.length : Int) := by omega
          have hj0 : (0 : Int) ≤ (j : Int) := by omega
          have hw2 : IntKind.i64.wrap (2 + (m.length : Int)) = 2 + (m.length : Int) := IntWalk.i64_in _ (by omega)
          have HLT := Lib.hid (show (optsT (l.take j)).length ≤ 40 by rw [HTL.out]; exact HTB.out)
          clear HTL HTB
          generalize optsT (l.take j) = t at *
          have HA := Lib.hid (And.intro (Bx.new wr 43 #[.int .i64 k, .string ⟨m.toArray⟩]) (And.intro (World.grownBy_alloc wr (.cells #[.int .i64 k, .string ⟨m.toArray⟩] 43) none) (show B ≤ wr.heap.size from bldf_at HS.out.2)))
          have hBO : B < wr.heap.size := by
            rcases HS.out.2 with ⟨_, v, hb, _⟩ | ⟨_, v, hb, _⟩ <;> exact (Array.getElem?_eq_some_iff.1 hb).1
          have hbne : ¬ wr.heap.size = B := by omega
          go_wp2_with fail
          generalize hwa : wr.alloc (.cells #[.int .i64 k, .string ⟨m.toArray⟩] 43) = wa at *
          clear hwa
          have HBL := Lib.hid (fun (V : World) (hg : wa.grownBy V none) => bldf_kept HS.out.2 (grownBy_trans HA.out.2.1 hg))
          have HWA := Lib.hid (grownBy_trans HS.out.1 HA.out.2.1)
          have hb1 : ¬ 9223372036854775807 < 1 + 1 + m.length := by omega
          have z1 : wa.grownBy wa.drew none := grownBy_drew
          clear c0 c1
          have d0 := HA.out.1.c 0 rfl
          have d1 := HA.out.1.c 1 rfl
          refine wp_region_held_drew (S := fun w' => w'.cell? ⟨wr.heap.size, 0, none⟩ = some (.int .i64 k) ∧ w'.cell? ⟨wr.heap.size, 1, none⟩ = some (.string ⟨m.toArray⟩) ∧ Bx w' wr.heap.size 43 #[.int .i64 k, .string ⟨m.toArray⟩] ∧ w.grownBy w' none) (by kernel_rfl) (⟨HA.out.1.c 0 rfl, HA.out.1.c 1 rfl, HA.out.1, grownBy_trans HWA.out grownBy_drew⟩) (fun hS => ?_)
          refine wpAnyH_take (i := 0) (v := ?_) rfl (by kernel_rfl) (by kernel_rfl) (by kernel_rfl) (fun _ _ _ h => h) (Or.inl ⟨by kernel_rfl, ?_⟩) hS ?_
          rotate_left
          · intro w' hSw
            obtain ⟨g0, g1, _, _⟩ := hSw
            first | (go_simp; done) | (go_simp; with_reducible rfl)
          simp only [List.getElem_toArray, List.getElem_cons_zero, Act.put, List.setIfInBounds_toArray, List.set_cons_zero, List.set_cons_succ]
          refine wpAnyH_take (i := 1) (v := ?_) rfl (by kernel_rfl) (by kernel_rfl) (by kernel_rfl) (fun _ _ _ h => h) (Or.inl ⟨by kernel_rfl, ?_⟩) hS ?_
          rotate_left
          · intro w' hSw
            obtain ⟨g0, g1, _, _⟩ := hSw
            first | (go_simp; done) | (go_simp; with_reducible rfl)
          simp only [List.getElem_toArray, List.getElem_cons_zero, List.getElem_cons_succ, Act.put, List.setIfInBounds_toArray, List.set_cons_zero, List.set_cons_succ]
          refine wpAnyH_take (i := 3) (v := ?_) rfl (by kernel_rfl) (by kernel_rfl) (by kernel_rfl) (fun _ _ _ h => h) (Or.inl ⟨by kernel_rfl, ?_⟩) hS ?_
          rotate_left
          · intro w' hSw
            obtain ⟨g0, g1, _, _⟩ := hSw
            first | (go_simp; done) | (go_simp; with_reducible rfl)
          simp only [List.getElem_toArray, List.getElem_cons_zero, List.getElem_cons_succ, Act.put, List.setIfInBounds_toArray, List.set_cons_zero, List.set_cons_succ]
          refine wpAnyH_take (i := 6) (v := ?_) rfl (by kernel_rfl) (by kernel_rfl) (by kernel_rfl) (fun _ _ _ h => h) (Or.inl ⟨by kernel_rfl, ?_⟩) hS ?_
          rotate_left
          · intro w' hSw
            obtain ⟨g0, g1, _, _⟩ := hSw
            first | (go_simp; done) | (go_simp; with_reducible rfl)
          simp only [List.getElem_toArray, List.getElem_cons_zero, List.getElem_cons_succ, Act.put, List.setIfInBounds_toArray, List.set_cons_zero, List.set_cons_succ]
          refine wpAnyH_take (i := 7) (v := ?_) rfl (by kernel_rfl) (by kernel_rfl) (by kernel_rfl) (fun _ _ _ h => h) (Or.inl ⟨by kernel_rfl, ?_⟩) hS ?_
          rotate_left
          · intro w' hSw
            obtain ⟨g0, g1, _, _⟩ := hSw
            first | (go_simp; done) | (go_simp; with_reducible rfl)
          simp only [List.getElem_toArray, List.getElem_cons_zero, List.getElem_cons_succ, Act.put, List.setIfInBounds_toArray, List.set_cons_zero, List.set_cons_succ]
          refine wpAnyH_ready (rs := [2]) (by kernel_rfl) (List.cons_ne_nil _ _) ?_
          refine AllReadyH.cons rfl (fun K hK => ?_) AllReadyH.nil
          go_simp
          go_at_call 30
          refine (put1_I _ _ (by omega) (by omega)).mono ?_
          rintro e w7 ⟨rfl, hg⟩
          have z7 := grownBy_trans (a := wa) (by assumption) hg
          have hb := hS.2.2.1.keep hg
          refine hK.out _ _ ⟨hb.c 0 rfl, hb.c 1 rfl, hb, grownBy_trans hS.2.2.2 hg⟩ (fun hS => ?_)
          clear hb hg
          clear hK
          try simp only [List.getElem_toArray, List.getElem_cons_zero, List.getElem_cons_succ, Act.put, List.setIfInBounds_toArray, List.set_cons_zero, List.set_cons_succ]
          refine wpAnyH_ready (rs := [4]) (by kernel_rfl) (List.cons_ne_nil _ _) ?_
          refine AllReadyH.cons rfl (fun K hK => ?_) AllReadyH.nil
          go_simp
          go_at_call 30
          refine (put1_I _ _ (by omega) (by omega)).mono ?_
          rintro e w8 ⟨rfl, hg⟩
          have z8 := grownBy_trans (a := wa) (by assumption) hg
          have hb := hS.2.2.1.keep hg
          refine hK.out _ _ ⟨hb.c 0 rfl, hb.c 1 rfl, hb, grownBy_trans hS.2.2.2 hg⟩ (fun hS => ?_)
          clear hb hg
          clear hK
          try simp only [List.getElem_toArray, List.getElem_cons_zero, List.getElem_cons_succ, Act.put, List.setIfInBounds_toArray, List.set_cons_zero, List.set_cons_succ]
          refine wpAnyH_take (i := 5) (v := ?_) rfl (by kernel_rfl) (by kernel_rfl) (by kernel_rfl) (fun _ _ _ h => h) (Or.inl ⟨by kernel_rfl, ?_⟩) hS ?_
          rotate_left
          · intro w' hSw
            obtain ⟨g0, g1, _, _⟩ := hSw
            first | (go_simp; done) | (go_simp; with_reducible rfl)
          simp only [List.getElem_toArray, List.getElem_cons_zero, List.getElem_cons_succ, Act.put, List.setIfInBounds_toArray, List.set_cons_zero, List.set_cons_succ]
          refine wpAnyH_take (i := 8) (v := ?_) rfl (by kernel_rfl) (by kernel_rfl) (by kernel_rfl) (fun _ _ _ h => h) (Or.inl ⟨by kernel_rfl, ?_⟩) hS ?_
          rotate_left
          · intro w' hSw
            obtain ⟨g0, g1, _, _⟩ := hSw
            first | (go_simp; done) | (go_simp; with_reducible rfl)
          simp only [List.getElem_toArray, List.getElem_cons_zero, List.getElem_cons_succ, Act.put, List.setIfInBounds_toArray, List.set_cons_zero, List.set_cons_succ]
          refine wpAnyH_ready (rs := [9]) (by kernel_rfl) (List.cons_ne_nil _ _) ?_
          refine AllReadyH.cons rfl (fun K hK => ?_) AllReadyH.nil
          go_simp
          go_at_call 29
          have hbq := HBL.out _ (by assumption)
          rw [ob_cat3]
          refine (writek_any B B _ ⟨(optB (k, m)).toArray⟩ _ hbq (by rw [str_size, Lib.byteCells_length, optB_len]; have := HLT.out; dsimp only; omega) (bldf_at hbq)).mono ?_
          rintro e w9 ⟨rfl, hbld, hbel, hok⟩
          have hb := bx_ok hS.2.2.1 hok hbne (by decide)
          have HX := Lib.hid (bldf_said hbld)
          refine hK.out _ _ ⟨hb.c 0 rfl, hb.c 1 rfl, hb, below_grows ((below_new hS.2.2.2).trans (hbel.mono hB))⟩ (fun hS => ?_)
          clear hb hbld hbel hok
          clear hK
          try simp only [List.getElem_toArray, List.getElem_cons_zero, List.getElem_cons_succ, Act.put, List.setIfInBounds_toArray, List.set_cons_zero, List.set_cons_succ]
          refine wpAnyH_done (by kernel_rfl) ?_ _
          have hgw := hS.2.2.2
          go_wp2_with fail
          go_roundw
          case rel => exact ⟨j + 1, hlt, by go_num, hgw, by rw [HN.out]; exact HX.out⟩
          case measure => simp [intOf]; omega
      · obtain rfl : j = l.length := by omega
        rw [List.take_length] at HTL HTB HS
        have htl : (optsT l).length ≤ 40 := by rw [HTL.out]; exact HTB.out
        clear HTL HTB
        generalize optsT l = t at *
        go_wp2_with fail
        go_loopw [] (fun wr => PdiRel w B t wr) (fun wr => fillN t.length + t.length - bldN B wr)
        case atStart => exact ⟨0, Nat.zero_le _, HS.out.1, by simpa using HS.out.2⟩
        case round =>
          obtain ⟨k, hk, hg, hbld⟩ := hrel
          have HS2 := Lib.hid (And.intro hg hbld)
          clear hg hbld
          have hfl := fill_le t.length
          have HN := Lib.hid (bldN_of HS2.out.2)
          go_wp2_with fail
          refine (lenf_any B B _ _ HS2.out.2).mono ?_
          rintro e w8 ⟨rfl, rfl⟩
          rw [show (Lib.byteCells (t ++ List.replicate k 1)).length = t.length + k by rw [Lib.byteCells_length, List.length_append, List.length_replicate]]
          by_cases hm4 : (t.length + k) % 4 = 0
          · have hb : (((t.length + k : Nat) : Int) % 4 == 0) = true := by simp; omega
            have HE := Lib.hid (pad_done hk hm4)
            clear hm4
            go_wp2_with fail
            refine (stringf_any B B _ _ HS2.out.2 (bldf_at HS2.out.2)).mono ?_
            rintro e w9 ⟨rfl, _, hbel⟩
            have HG := Lib.hid (below_grows ((below_new HS2.out.1).trans (hbel.mono hB)))
            clear hbel
            go_wp2_with fail
            go_ret
            exact ⟨ret_ba (by rw [HV.out, HE.out]; rfl), HG.out⟩
          · have hb : (((t.length + k : Nat) : Int) % 4 == 0) = false := by simp; omega
            have HM := Lib.hid (pad_more hk hm4)
            clear hm4
            go_wp2_with fail
            refine (bytek_any B B _ 1 _ HS2.out.2 (by rw [Lib.byteCells_length, List.length_append, List.length_replicate]; omega) (bldf_at HS2.out.2)).mono ?_
            rintro e w9 ⟨rfl, hbld, hbel, _⟩
            have hbld2 : Lib.IsBuilderF 50 5 B B (Lib.byteCells (t ++ List.replicate (k + 1) 1)) w9 := by
              rw [← rep_snoc, ← List.append_assoc]
              exact bldf_said (m := [1]) hbld
            have HG := Lib.hid (And.intro (below_grows ((below_new HS2.out.1).trans (hbel.mono hB))) hbld2)
            clear hbel hbld hbld2
            go_wp2_with fail
            go_roundw
            case rel => exact ⟨k + 1, HM.out, HG.out.1, HG.out.2⟩
            case measure => rw [bldN_of HG.out.2, HN.out, Lib.byteCells_length, Lib.byteCells_length, List.length_append, List.length_append, List.length_replicate, List.length_replicate]; have := HM.out; omega
  · have HY := Lib.hid (ops_no hP)
    have HV := Lib.hid (show optsL l = [] from if_neg hP)
    clear hP
    go_enter Try.func10, Try.ntmps10
    go_wp2_with fail
    refine (ops_impl _ _ _ _ H.out.1 (by omega) H.out.2).mono ?_
    rintro e w1 ⟨rfl, hg⟩
    rw [HY.out]
    have H1 := Lib.hid hg
    clear hg
    go_wp2_with fail
    go_ret
    exact ⟨by rw [HV.out]; rfl, H1.out⟩

end Go.Proofs.Ytefpnbmjcailgaa
