/- The program's writing of a whole trace. -/
import Derived.Test.YtbhbbmocioefnaaTrc
namespace Go.Proofs.Ytbhbbmocioefnaa
open Go.RowKit

def headL (big : Bool) : List UInt8 := blockT 168627466 (headB big) big ++ blockT 1 (linkB big) big
def pkT (big : Bool) (p : Pk) : List UInt8 := blockT 6 (bodyB p.1 p.2 big) big
def traceT (l : List Pk) (big : Bool) : List UInt8 := headL big ++ l.flatMap (pkT big)
def traceOk (l : List Pk) : Prop := l.length ≤ 60 ∧ ∀ x ∈ l, pkOk x
instance (l : List Pk) : Decidable (traceOk l) := by unfold traceOk; infer_instance
def traceL (l : List Pk) (big : Bool) : List UInt8 := if traceOk l then traceT l big else []

theorem numL_width (n k : Int) (big : Bool) (h : putOk n k) : (numL n k big).length = k.toNat := by
  unfold numL
  split
  · rw [putL_ok h, beL_length]
  · rw [List.length_reverse, putL_ok h, beL_length]
theorem len_four (n : Int) (big : Bool) (h0 : 0 ≤ n) (h1 : n < 4294967296) : (numL n 4 big).length = 4 := by
  rw [numL_width n 4 big ⟨by omega, by omega, h0, by simpa using h1⟩]; rfl
theorem len_two (n : Int) (big : Bool) (h0 : 0 ≤ n) (h1 : n < 65536) : (numL n 2 big).length = 2 := by
  rw [numL_width n 2 big ⟨by omega, by omega, h0, by simpa using h1⟩]; rfl
theorem headB_len (big : Bool) : (headB big).length = 16 := by
  simp [headB, len_four, len_two]
theorem linkB_len (big : Bool) : (linkB big).length = 8 := by
  simp [linkB, len_four, len_two]
theorem bodyB_len (t : Int) (l : List UInt8) (big : Bool) (h : pkOk (t, l)) : (bodyB t l big).length = 20 + (padL l).length := by
  obtain ⟨h0, h1, h2⟩ := h
  simp only at h0 h1 h2
  rw [bodyB]
  simp only [List.length_append]
  rw [len_four 0 big (by omega) (by omega), len_four (t / 4294967296) big (by omega) (by omega), len_four (t % 4294967296) big (by omega) (by omega), len_four l.length big (by omega) (by omega)]
theorem body_ok (t : Int) (l : List UInt8) (big : Bool) (h : pkOk (t, l)) : blockOk 6 (bodyB t l big) := by
  have e := bodyB_len t l big h
  have p := padL_len l
  have h2 := h.2.2
  simp only at h2
  exact ⟨by omega, by omega, by omega, by omega⟩
theorem head_ok (big : Bool) : blockOk 168627466 (headB big) := ⟨by omega, by omega, by rw [headB_len]; omega, by rw [headB_len]⟩
theorem link_ok (big : Bool) : blockOk 1 (linkB big) := ⟨by omega, by omega, by rw [linkB_len]; omega, by rw [linkB_len]⟩
theorem blockT_len (k : Int) (l : List UInt8) (big : Bool) (h : blockOk k l) : (blockT k l big).length = l.length + 12 := by
  have := block_right k l [] big h
  exact this.2.2.2.2
theorem pkT_len (big : Bool) (p : Pk) (h : pkOk p) : (pkT big p).length ≤ 500 := by
  obtain ⟨t, l⟩ := p
  have e := bodyB_len t l big h
  have q := padL_len l
  have h2 := h.2.2
  simp only at h2
  rw [pkT, blockT_len _ _ _ (body_ok t l big h)]
  omega
theorem pks_len (big : Bool) : ∀ l : List Pk, (∀ x ∈ l, pkOk x) → (l.flatMap (pkT big)).length ≤ 500 * l.length
  | [], _ => by simp
  | p :: l, h => by
    have a := pkT_len big p (h p (by simp))
    have b := pks_len big l (fun x hx => h x (by simp [hx]))
    simp only [List.flatMap_cons, List.length_append, List.length_cons]
    omega
theorem headL_len (big : Bool) : (headL big).length = 48 := by
  rw [headL, List.length_append, blockT_len _ _ _ (head_ok big), blockT_len _ _ _ (link_ok big), headB_len, linkB_len]

theorem bld_kept {T e : TypeId} {B b : Nat} {bs : List Value} {w w' : World} (h : Lib.IsBuilder T e B b bs w) (hg : w.grownBy w' none) : Lib.IsBuilder T e B b bs w' := by
  have key : ∀ p, Lib.BuilderAt T e B b p bs w → Lib.BuilderAt T e B b p bs w' := by
    rintro p ⟨hB, v, hb, hown, hne⟩
    have hlt : b < w.heap.size := Lib.BuilderAt.lt ⟨hB, v, hb, hown, hne⟩
    exact ⟨hB, v, (hg.block b hlt (by simp)).trans hb, hown.kept hg (by cases v.ownBlock <;> simp), hne⟩
  rcases h with h | h
  · exact .inl (key _ h)
  · exact .inr (key _ h)
theorem grow_below {w a b : World} {B : Nat} (h : w.grownBy a none) (k : Below B a b) (hB : w.heap.size ≤ B) : w.grownBy b none := below_grows ((below_new h).trans (k.mono hB))

theorem bld_at {T e : TypeId} {B b : Nat} {bs : List Value} {w : World} (h : Lib.IsBuilder T e B b bs w) : B ≤ w.heap.size := by
  rcases h with h | h
  · exact Nat.le_trans h.1 (Nat.le_of_lt h.lt)
  · exact Nat.le_trans h.1 (Nat.le_of_lt h.lt)
/-- What was written stands behind what was there. -/
theorem bld_said {T e : TypeId} {B b : Nat} {l m : List UInt8} {w : World} (h : Lib.BuilderAt T e B b (.pointer (some ⟨b, 0, none⟩)) (Lib.byteCells l ++ Lib.strCells ⟨m.toArray⟩) w) : Lib.IsBuilder T e B b (Lib.byteCells (l ++ m)) w := by
  have e1 : Lib.byteCells l ++ Lib.strCells ⟨m.toArray⟩ = Lib.byteCells (l ++ m) := by simp [Lib.byteCells, Lib.strCells]
  rw [e1] at h
  exact .inr h

theorem flat_next (big : Bool) (l : List Pk) (j : Nat) (h : j < l.length) : (l.take (j + 1)).flatMap (pkT big) = (l.take j).flatMap (pkT big) ++ pkT big l[j] := by
  rw [List.take_succ_eq_append_getElem h, List.flatMap_append]
  simp

def TrcRel (w : World) (B : Nat) (l : List Pk) (big : Bool) (i : Value) (wr : World) : Prop :=
  ∃ j : Nat, j ≤ l.length ∧ i = .int .i64 j ∧ w.grownBy wr none ∧ B ≤ wr.heap.size ∧ Lib.IsBuilder 48 5 B B (Lib.byteCells (headL big ++ (l.take j).flatMap (pkT big))) wr

set_option maxRecDepth 100000 in
set_option maxHeartbeats 1000000 in
theorem trace_impl (a : Option Addr) (c : Nat) (l : List Pk) (big : Bool) (w : World) (h : PkAt w a l) : Calls Try.prog 8 #[.slice a l.length c, .bool big] w (StrPost w (traceL l big)) := by
  have H := Lib.hid h
  clear h
  by_cases hok : traceOk l
  · have HE := Lib.hid (And.intro hok (show traceL l big = traceT l big from if_pos hok))
    have hd : decide (l.length ≤ 60 ∧ ∀ x ∈ l, pkOk x) = true := decide_eq_true hok
    have HD := Lib.hid hd
    clear hok hd
    go_enter Try.func8, Try.ntmps8
    go_wp2_with fail
    refine (packets_any a c l _ H.out).mono ?_
    rintro e w1 ⟨rfl, hg⟩
    rw [HD.out]
    have hb := Lib.fresh_isBuilder 48 5 w1
    have hg1 := grownBy_trans hg (World.grownBy_alloc w1 (.cells #[.pointer none, .slice none 0 0] 48) none)
    have hB : w.heap.size ≤ w1.heap.size := hg.size
    have H1 := Lib.hid (And.intro hb hg1)
    clear hg hb hg1
    go_wp2_with fail
    refine (head_impl big _).mono ?_
    rintro e w2 ⟨rfl, hg⟩
    have H2 := Lib.hid (And.intro (bld_kept H1.out.1 hg) (grownBy_trans H1.out.2 hg))
    clear hg
    go_wp2_with fail
    refine (block_impl 168627466 (headB big) big _ (by rw [headB_len]; omega)).mono ?_
    rintro e w3 ⟨rfl, hg⟩
    rw [show blockL 168627466 (headB big) big = blockT 168627466 (headB big) big from if_pos (head_ok big)]
    have H3 := Lib.hid (And.intro (bld_kept H2.out.1 hg) (grownBy_trans H2.out.2 hg))
    clear hg
    go_wp2_with fail
    refine (write_any w1.heap.size w1.heap.size [] ⟨(blockT 168627466 (headB big) big).toArray⟩ _ H3.out.1 (by rw [str_size, blockT_len _ _ _ (head_ok big), headB_len]; simp) (bld_at H3.out.1)).mono ?_
    rintro e w4 ⟨rfl, hbld, hbel⟩
    have H4 := Lib.hid (And.intro (bld_said (l := []) hbld) (grow_below H3.out.2 hbel hB))
    clear hbld hbel
    go_wp2_with fail
    refine (link_impl big _).mono ?_
    rintro e w5 ⟨rfl, hg⟩
    have H5 := Lib.hid (And.intro (bld_kept H4.out.1 hg) (grownBy_trans H4.out.2 hg))
    clear hg
    go_wp2_with fail
    refine (block_impl 1 (linkB big) big _ (by rw [linkB_len]; omega)).mono ?_
    rintro e w6 ⟨rfl, hg⟩
    rw [show blockL 1 (linkB big) big = blockT 1 (linkB big) big from if_pos (link_ok big)]
    have H6 := Lib.hid (And.intro (bld_kept H5.out.1 hg) (grownBy_trans H5.out.2 hg))
    clear hg
    go_wp2_with fail
    refine (write_any w1.heap.size w1.heap.size _ ⟨(blockT 1 (linkB big) big).toArray⟩ _ H6.out.1 (by rw [str_size, Lib.byteCells_length, List.length_append, blockT_len _ _ _ (head_ok big), headB_len, blockT_len _ _ _ (link_ok big), linkB_len]; simp) (bld_at H6.out.1)).mono ?_
    rintro e w7 ⟨rfl, hbld, hbel⟩
    have H7 := Lib.hid (And.intro (bld_said hbld) (grow_below H6.out.2 hbel hB))
    clear hbld hbel
    go_wp2_with fail
    go_loopw [25] (fun i wr => TrcRel w w1.heap.size l big i wr) (fun i _ => l.length - (intOf i).toNat)
    case atStart => exact ⟨0, Nat.zero_le _, rfl, H7.out.2, bld_at H7.out.1, by simpa [headL] using H7.out.1⟩
    case round =>
      obtain ⟨j, hj, rfl, hg, hBr, hbld⟩ := hrel
      have HS := Lib.hid (And.intro hbld hg)
      clear hg hbld
      by_cases hlt : j < l.length
      · rcases (H.out.kept HS.out.2) with h0 | ⟨b, off, rfl, hb, hc⟩
        · rw [h0] at hlt
          simp at hlt
        · obtain ⟨c0, c1⟩ := hc j hlt
          clear hc
          have h60 := HE.out.1.1
          have hx := HE.out.1.2 l[j] (List.getElem_mem hlt)
          have HN := Lib.hid (flat_next big l j hlt)
          generalize l[j] = x at *
          obtain ⟨t, m⟩ := x
          have HX := Lib.hid hx
          clear hx
          have hlt' : (j : Int) < (l.length : Int) := by omega
          have HA := Lib.hid (World.grownBy_alloc wr (.cells #[.int .i64 t, .string ⟨m.toArray⟩] 55) none)
          go_wp2_with fail
          refine (packet_impl t m big _ HX.out.1 HX.out.2.1 HX.out.2.2).mono ?_
          rintro e w8 ⟨rfl, hg⟩
          have H8 := Lib.hid (And.intro (bld_kept HS.out.1 (grownBy_trans HA.out hg)) (grownBy_trans HS.out.2 (grownBy_trans HA.out hg)))
          clear hg c0 c1
          go_wp2_with fail
          refine (block_impl 6 (bodyB t m big) big _ (by have := (body_ok t m big HX.out).2.2.1; omega)).mono ?_
          rintro e w9 ⟨rfl, hg⟩
          rw [show blockL 6 (bodyB t m big) big = pkT big (t, m) from if_pos (body_ok t m big HX.out)]
          have H9 := Lib.hid (And.intro (bld_kept H8.out.1 hg) (grownBy_trans H8.out.2 hg))
          clear hg
          go_wp2_with fail
          refine (write_any w1.heap.size w1.heap.size _ ⟨(pkT big (t, m)).toArray⟩ _ H9.out.1 (by
            have h1 := pkT_len big (t, m) HX.out
            have h2 := pks_len big (l.take j) (fun x hx => HE.out.1.2 x (List.mem_of_mem_take hx))
            have h3 := HE.out.1.1
            have h4 := headL_len big
            have h5 : (l.take j).length ≤ l.length := by simp; omega
            rw [str_size, Lib.byteCells_length, List.length_append]
            omega) (bld_at H9.out.1)).mono ?_
          rintro e w10 ⟨rfl, hbld, hbel⟩
          have hbld' := bld_said hbld
          rw [List.append_assoc, ← HN.out] at hbld'
          have H10 := Lib.hid (And.intro hbld' (grow_below H9.out.2 hbel hB))
          clear hbld hbel hbld'
          go_wp2_with fail
          go_roundw
          case rel => exact ⟨j + 1, hlt, by go_num, H10.out.2, bld_at H10.out.1, H10.out.1⟩
          case measure => simp [intOf]; omega
      · obtain rfl : j = l.length := by omega
        go_wp2_with fail
        refine (string_any w1.heap.size w1.heap.size _ _ HS.out.1 (bld_at HS.out.1)).mono ?_
        rintro e w8 ⟨rfl, hbel⟩
        have H8 := Lib.hid (grow_below HS.out.2 hbel hB)
        clear hbel
        go_wp2_with fail
        go_ret
        exact ⟨ret_s (by rw [HE.out.2, traceT]), H8.out⟩
  · have HE := Lib.hid (show traceL l big = [] from if_neg hok)
    have hd : decide (l.length ≤ 60 ∧ ∀ x ∈ l, pkOk x) = false := decide_eq_false hok
    have HD := Lib.hid hd
    clear hok hd
    go_enter Try.func8, Try.ntmps8
    go_wp2_with fail
    refine (packets_any a c l _ H.out).mono ?_
    rintro e w1 ⟨rfl, hg⟩
    rw [HD.out]
    have HG := Lib.hid hg
    clear hg
    go_wp2_with fail
    go_ret
    exact ⟨ret_s (a := []) HE.out.symm, HG.out⟩

end Go.Proofs.Ytbhbbmocioefnaa
