/- Options as functions of a text's bytes; the program's reading of one's body. -/
import Derived.Test.YtefpnbmjcailgaaOp
import Derived.Deep.RegionHeld3
import Derived.Lib.Strings
namespace Go.Proofs.Ytefpnbmjcailgaa
open Go.RowKit

theorem extract_mid (t : List UInt8) (a b : Nat) (_h : a ≤ b) : (⟨t.toArray⟩ : ByteArray).extract a b = ⟨((t.drop a).take (b - a)).toArray⟩ := by
  refine ba_of ?_
  rw [Lib.extract_data]

/-- Whether an option is whole. -/
def whole (s : List UInt8) : Prop := 2 ≤ s.length ∧ 2 ≤ (s.getD 1 0).toNat ∧ (s.getD 1 0).toNat ≤ s.length
instance (s : List UInt8) : Decidable (whole s) := by unfold whole; infer_instance
def bodyL (s : List UInt8) : List UInt8 := (s.drop 2).take ((s.getD 1 0).toNat - 2)
theorem byte_at (s : List UInt8) (i : Nat) (h : i < s.length) : s.getD i 0 = s[i] := by
  rw [List.getD_eq_getElem?_getD, List.getElem?_eq_getElem h]; rfl
theorem body_len (s : List UInt8) (h : whole s) : (bodyL s).length = (s.getD 1 0).toNat - 2 := by
  have h3 := h.2.2
  unfold bodyL
  rw [List.length_take, List.length_drop]
  omega
theorem str_mid (r : List UInt8) (a b : Nat) : ({ data := r.toArray } : ByteArray).extract a b = ⟨((r.drop a).take (b - a)).toArray⟩ := by
  by_cases h : a ≤ b
  · exact extract_mid r a b h
  · rw [show b - a = 0 by omega]
    apply ByteArray.ext
    simp [ByteArray.data_extract]
    omega

theorem wrap_byte (b : UInt8) : wrap64 (b.toNat : Int) = (b.toNat : Int) := by
  have h := b.toNat_lt
  unfold wrap64
  omega


set_option maxRecDepth 100000 in
set_option maxHeartbeats 1000000 in
theorem body_no1 (S : ByteArray) (w : World) (h2 : S.size < 2) : Calls Try.prog 57 #[.string S] w fun e w' => e = .returned (.tuple #[.string ⟨#[]⟩, .bool false]) ∧ w' = w := by
  have h2i : (S.size : Int) < 2 := by omega
  go_enter Try.func57, Try.ntmps57
  go_wp2_with fail
  exact bodyPost_ret (v := .tuple #[.string ⟨#[]⟩, .bool false]) (by simp [results, Try.results57, go_sem]) rfl ⟨rfl, rfl⟩

set_option maxRecDepth 100000 in
set_option maxHeartbeats 1000000 in
theorem body_no2 (S : ByteArray) (w : World) (hs : S.size ≤ 100000) (h1 : 1 < S.size) (h : S[1].toNat < 2 ∨ S.size < S[1].toNat) : Calls Try.prog 57 #[.string S] w fun e w' => e = .returned (.tuple #[.string ⟨#[]⟩, .bool false]) ∧ w' = w := by
  have h2i : ¬ (S.size : Int) < 2 := by omega
  have h1i : (1 : Int) < (S.size : Int) := by omega
  have hc := S[1].toNat_lt
  have hw := wrap_byte S[1]
  by_cases h3 : S[1].toNat < 2
  · have h3i : (S[1].toNat : Int) < 2 := by omega
    clear h
    go_enter Try.func57, Try.ntmps57
    go_wp2_with fail
    exact bodyPost_ret (v := .tuple #[.string ⟨#[]⟩, .bool false]) (by simp [results, Try.results57, go_sem]) rfl ⟨rfl, rfl⟩
  · have h3i : ¬ (S[1].toNat : Int) < 2 := by omega
    have h4 : S.size < S[1].toNat := by omega
    have h4i : (S.size : Int) < (S[1].toNat : Int) := by omega
    clear h
    go_enter Try.func57, Try.ntmps57
    go_wp2_with fail
    exact bodyPost_ret (v := .tuple #[.string ⟨#[]⟩, .bool false]) (by simp [results, Try.results57, go_sem]) rfl ⟨rfl, rfl⟩

set_option maxRecDepth 100000 in
set_option maxHeartbeats 1000000 in
theorem body_yes1 (S : ByteArray) (w : World) (hs : S.size ≤ 100000) (h1 : 1 < S.size) (h3 : ¬ S[1].toNat < 2) (h4 : ¬ S.size < S[1].toNat) : Calls Try.prog 57 #[.string S] w fun e w' => e = .returned (.tuple #[.string (S.extract 2 S[1].toNat), .bool true]) ∧ w' = w := by
  have h2i : ¬ (S.size : Int) < 2 := by omega
  have h1i : (1 : Int) < (S.size : Int) := by omega
  have hc := S[1].toNat_lt
  have hw := wrap_byte S[1]
  have h3i : ¬ (S[1].toNat : Int) < 2 := by omega
  have h3j : (2 : Int) ≤ (S[1].toNat : Int) := by omega
  have h3k : 2 ≤ S[1].toNat := by omega
  have h4i : ¬ (S.size : Int) < (S[1].toNat : Int) := by omega
  have h4j : (S[1].toNat : Int) ≤ (S.size : Int) := by omega
  have h4k : S[1].toNat ≤ S.size := by omega
  go_enter Try.func57, Try.ntmps57
  go_wp2_with fail
  exact bodyPost_ret (v := .tuple #[.string (S.extract 2 S[1].toNat), .bool true]) (by simp [results, Try.results57, go_sem]) rfl ⟨rfl, rfl⟩
theorem body_no (s : List UInt8) (w : World) (hs : s.length ≤ 100000) (h : ¬ whole s) : Calls Try.prog 57 #[.string ⟨s.toArray⟩] w fun e w' => e = .returned (.tuple #[.string ⟨#[]⟩, .bool false]) ∧ w' = w := by
  by_cases h2 : s.length < 2
  · exact body_no1 ⟨s.toArray⟩ w h2
  · have h1 : 1 < s.length := by omega
    refine body_no2 ⟨s.toArray⟩ w hs h1 ?_
    have hb := byte_at s 1 h1
    unfold whole at h
    rw [hb] at h
    show s[1].toNat < 2 ∨ s.length < s[1].toNat
    omega
theorem body_yes (s : List UInt8) (w : World) (hs : s.length ≤ 100000) (h : whole s) : Calls Try.prog 57 #[.string ⟨s.toArray⟩] w fun e w' => e = .returned (.tuple #[.string ⟨(bodyL s).toArray⟩, .bool true]) ∧ w' = w := by
  have h1 : 1 < s.length := h.1
  have hb := byte_at s 1 h1
  have h3 := h.2.1
  have h4 := h.2.2
  rw [hb] at h3 h4
  have k := body_yes1 ⟨s.toArray⟩ w hs h1 (show ¬ s[1].toNat < 2 by omega) (show ¬ s.length < s[1].toNat by omega)
  have e : (({ data := s.toArray } : ByteArray).extract 2 s[1].toNat) = ⟨(bodyL s).toArray⟩ := by unfold bodyL; rw [hb, str_mid]
  rw [← e]
  exact k

theorem sz_list (S : ByteArray) : S.data.toList.length = S.size := by simp
theorem ba_eta (S : ByteArray) : S = ⟨S.data.toList.toArray⟩ := by cases S; simp
theorem ba_at (S : ByteArray) (i : Nat) (h : i < S.size) : S.data.toList.getD i 0 = S[i] := by
  rw [List.getD_eq_getElem?_getD, List.getElem?_eq_getElem (by simpa using h)]; rfl
theorem ba_cut (S : ByteArray) (a b : Nat) : (S.extract a b).data.toList = (S.data.toList.drop a).take (b - a) := by
  rw [ba_eta S, str_mid]
theorem ba_rest (S : ByteArray) (a : Nat) : (S.extract a S.size).data.toList = S.data.toList.drop a := by
  rw [ba_cut, List.take_of_length_le (by simp)]
theorem byte_eq (b : UInt8) (n : Nat) (hn : n < 256) : (b = UInt8.ofNat n) ↔ ((b.toNat : Int) = (n : Int)) := by
  constructor
  · intro h; subst h; simp; omega
  · intro h
    apply UInt8.toNat_inj.mp
    simp
    omega
theorem ba_ne (S : ByteArray) (h : ¬ S.size = 0) : S.toList.isEmpty = false := by
  obtain ⟨⟨l⟩⟩ := S
  cases l with
  | nil => exact absurd rfl h
  | cons x l =>
    cases hq : ((ByteArray.mk (Array.mk (x :: l))).toList).isEmpty
    · rfl
    · rw [List.isEmpty_iff] at hq
      simp at hq
def strL : Value → Nat
  | .string b => b.size
  | _ => 0
/-- The options of a text. -/
def optO : Nat → List UInt8 → List Pk → Option (List Pk)
  | 0, _, _ => none
  | f + 1, s, acc =>
    if s = [] ∨ s.getD 0 0 = 0 then some acc
    else if s.getD 0 0 = 1 then optO f (s.drop 1) acc
    else if ¬ whole s then none
    else optO f (s.drop (s.getD 1 0).toNat) (acc ++ [(((s.getD 0 0).toNat : Int), bodyL s)])
theorem oo_end (f : Nat) (L : List UInt8) (acc : List Pk) (h : L = [] ∨ L.getD 0 0 = 0) : optO (f + 1) L acc = some acc := by unfold optO; rw [if_pos h]
theorem oo_fill (f : Nat) (L : List UInt8) (acc : List Pk) (h : ¬ (L = [] ∨ L.getD 0 0 = 0)) (h1 : L.getD 0 0 = 1) : optO (f + 1) L acc = optO f (L.drop 1) acc := by
  rw [optO, if_neg h, if_pos h1]
theorem oo_bad (f : Nat) (L : List UInt8) (acc : List Pk) (h : ¬ (L = [] ∨ L.getD 0 0 = 0)) (h1 : ¬ L.getD 0 0 = 1) (hw : ¬ whole L) : optO (f + 1) L acc = none := by
  rw [optO, if_neg h, if_neg h1, if_pos hw]
theorem oo_more (f : Nat) (L : List UInt8) (acc : List Pk) (h : ¬ (L = [] ∨ L.getD 0 0 = 0)) (h1 : ¬ L.getD 0 0 = 1) (hw : whole L) : optO (f + 1) L acc = optO f (L.drop (L.getD 1 0).toNat) (acc ++ [(((L.getD 0 0).toNat : Int), bodyL L)]) := by
  rw [optO, if_neg h, if_neg h1, if_neg (not_not_intro hw)]
def outO : Option (List Pk) → List Pk × Bool
  | some l => (l, true)
  | none => ([], false)
def readO (s : List UInt8) : List Pk × Bool := if 40 < s.length then ([], false) else outO (optO (s.length + 1) s [])
theorem optO_len : ∀ (f : Nat) (L : List UInt8) (acc : List Pk), 2 * acc.length + L.length ≤ 40 → ∀ l, optO f L acc = some l → l.length ≤ 20
  | 0, _, _, _, l, h => by simp [optO] at h
  | f + 1, L, acc, hb, l, h => by
    by_cases h0 : L = [] ∨ L.getD 0 0 = 0
    · rw [oo_end _ _ _ h0] at h
      simp at h
      subst h
      omega
    · by_cases h1 : L.getD 0 0 = 1
      · rw [oo_fill _ _ _ h0 h1] at h
        exact optO_len f _ _ (by rw [List.length_drop]; omega) l h
      · by_cases hw : whole L
        · rw [oo_more _ _ _ h0 h1 hw] at h
          have h2 := hw.2.1
          have h3 := hw.2.2
          exact optO_len f _ _ (by rw [List.length_append, List.length_drop, List.length_singleton]; omega) l h
        · rw [oo_bad _ _ _ h0 h1 hw] at h
          simp at h
theorem readO_len (s : List UInt8) : (readO s).1.length ≤ 20 := by
  unfold readO
  split
  · simp
  · rename_i h
    cases hl : optO (s.length + 1) s [] with
    | none => simp [outO]
    | some l => exact optO_len _ _ _ (by simp; omega) l hl
theorem pksV_snoc (l : List Pk) (x : Int) (m : List UInt8) : pksV (l ++ [(x, m)]) = pksV l ++ [.int .i64 x, .string ⟨m.toArray⟩] := by simp [pksV, pkV]
theorem row_zero (w : World) : (w.alloc (.cells #[] 43)).ownsRow w.heap.size 43 2 (.slice (some ⟨w.heap.size, 0, none⟩) 0 0) 0 [] :=
  ⟨by simp, .inr ⟨w.heap.size, 0, #[], rfl, Nat.le_refl _, (by show (w.heap.push (Obj.cells #[] 43))[w.heap.size]? = _; simp), Nat.le_refl _, by unfold maxLen; omega, by simp, by simp⟩⟩
theorem pair_new (w : World) (x y : Value) (T : TypeId) (b : Nat) (hb : b = w.heap.size) : ∀ j u, [x, y][j]? = some u → (w.alloc (.cells #[x, y] T)).cell? ((⟨b, 0, none⟩ : Addr).add j) = some u := by
  subst hb
  intro j u hj
  match j, hj with
  | 0, hj => simp at hj; subst hj; simp [Addr.add]
  | 1, hj => simp at hj; subst hj; simp [Addr.add]
theorem step_app {P : Program} {w : World} {ops : Array Oper} {o : Oper} {a : Act} {K : Act → World → Prop} {Q : Exit → Act → World → Prop} {E : Prop} (hgd : o.guard = none) (s x : Operand) (t : TypeId)
    (ho : o.op = .call { callee := .builtin .append, args := #[s, x], argTypes := #[t, t] })
    (base : Nat) (e : TypeId) (i : TypeInfo) (z : Value) (size bytes : Nat) (ht : P.underlying t = some (.slice e)) (hi : P.info? e = some i) (hz : i.zero = some z)
    (hsize : i.size = size) (hby : i.bytes = bytes) (hzs : z.cells.size = size) (hsz : 0 < size)
    (v : Value) (n : Nat) (xs : List Value) (hs : a.eval s = v) (hown : w.ownsRow base e size v n xs)
    (ad : Addr) (m c : Nat) (news : List Value) (hx : a.eval x = .slice (some ad) m c) (hl : news.length = m * size) (hnews : ∀ j u, news[j]? = some u → w.cell? (ad.add j) = some u) (h1 : ∀ u ∈ news, u.oneCell' = true)
    (h63 : n + m ≤ maxLen) (hbytes : (n + m) * bytes ≤ 140737488355328) (hbase : base ≤ w.heap.size)
    (h : ∀ v' w', w'.ownsRow base e size v' (n + m) (xs ++ news) → w.grownBy w' v.ownBlock → K (a.put o.dst v') w') :
    if Region.wanted o (yielded ops a.tmps) = true then Oper.wp P o a w K Q else E := by
  have hw : Region.wanted o (yielded ops a.tmps) = true := by simp [Region.wanted, hgd]
  rw [if_pos hw]
  exact wp_append_own w s x t ho base e i z size bytes ht hi hz hsize hby hzs hsz v n xs hs hown ad m c news hx hl hnews h1 h63 hbytes hbase fun v' w' h2 h3 _ => h v' w' h2 h3
theorem row_on {w w1 w2 wz : World} {T : TypeId} {v : Value} {n s : Nat} {xs : List Value} (ho : w1.ownsRow w.heap.size T s v n xs) (h1 : w.grownBy w1 none) (h2 : w2.grownBy wz v.ownBlock) (h3 : w1.grownBy w2 none := by first | exact grownBy_trans grownBy_drew (World.grownBy_alloc _ _ none)) : w.grownBy wz none :=
  ⟨h2.os.trans ((h3.os.trans h1.os)), h2.tape.trans (h3.tape.trans h1.tape), h2.output.trans (h3.output.trans h1.output), Nat.le_trans h1.size (Nat.le_trans h3.size h2.size), fun i hi _ => (h2.block i (Nat.lt_of_lt_of_le hi (Nat.le_trans h1.size h3.size)) (fun e => by have := (ho.lt i e.symm).1; omega)).trans ((h3.block i (Nat.lt_of_lt_of_le hi h1.size) (by simp)).trans (h1.block i hi (by simp)))⟩
theorem pair_at (w : World) (x y : Value) (T : TypeId) : ∀ j u, [x, y][j]? = some u → (w.alloc (.cells #[x, y] T)).cell? ((⟨w.heap.size, 0, none⟩ : Addr).add j) = some u := pair_new w x y T _ rfl
theorem app_facts (w wr : World) (x y : Value) (T : TypeId) (v : Value) (n : Nat) (xs : List Value) (ho : wr.ownsRow w.heap.size T 2 v n xs) : wr.grownBy (wr.alloc (.cells #[x, y] T)).drew none ∧ (wr.alloc (.cells #[x, y] T)).drew.ownsRow w.heap.size T 2 v n xs ∧ ∀ j u, [x, y][j]? = some u → (wr.alloc (.cells #[x, y] T)).drew.cell? ((⟨wr.heap.size, 0, none⟩ : Addr).add j) = some u := by
  have hf : wr.grownBy (wr.alloc (.cells #[x, y] T)).drew none := grownBy_trans (World.grownBy_alloc wr (.cells #[x, y] T) none) (grownBy_drew (a := wr.alloc (.cells #[x, y] T)) (r := none))
  exact ⟨hf, own_kept ho hf, fun j u hj => by rw [World.cell?_drew]; exact pair_at wr x y T j u hj⟩
def RoPost (w : World) (v : List Pk × Bool) (e : Ending) (w' : World) : Prop :=
  ∃ a c, e = .returned (.tuple #[.slice a v.1.length c, .bool v.2]) ∧ w.grownBy w' none ∧ w'.ownsRow w.heap.size 43 2 (.slice a v.1.length c) v.1.length (pksV v.1)

end Go.Proofs.Ytefpnbmjcailgaa
