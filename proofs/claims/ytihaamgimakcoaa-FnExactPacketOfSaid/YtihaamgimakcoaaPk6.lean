/- Flows: a packet of a segment, the program's and the model's. -/
import Derived.Test.YtihaamgimakcoaaBxK
import Derived.Test.YtihaamgimakcoaaTcpS
import Derived.Test.YtihaamgimakcoaaIpS
import Derived.Test.YtihaamgimakcoaaFrmS2
namespace Go.Proofs.Ytihaamgimakcoaa
open Go.RowKit

theorem sets5 {W : World} {B : Nat} {t : TypeId} {x0 x1 x2 x3 x4 : Value} (h : Bx W B t #[x0, x1, x2, x3, x4]) (v0 v1 v2 v3 v4 : Value) : Bx (((((W.setCell ⟨B, 0, none⟩ v0).setCell ⟨B, 1, none⟩ v1).setCell ⟨B, 2, none⟩ v2).setCell ⟨B, 3, none⟩ v3).setCell ⟨B, 4, none⟩ v4) B t #[v0, v1, v2, v3, v4] := by
  have h0 : Bx _ B t #[v0, x1, x2, x3, x4] := h.s 0 v0
  have h1 : Bx _ B t #[v0, v1, x2, x3, x4] := h0.s 1 v1
  have h2 : Bx _ B t #[v0, v1, v2, x3, x4] := h1.s 2 v2
  have h3 : Bx _ B t #[v0, v1, v2, v3, x4] := h2.s 3 v3
  have h4 : Bx _ B t #[v0, v1, v2, v3, v4] := h3.s 4 v4
  exact h4
theorem gsets5 {w u : World} {X : Nat} {v0 v1 v2 v3 v4 : Value} (h : w.grownBy u none) (hX : w.heap.size ≤ X) : w.grownBy (((((u.setCell ⟨X, 0, none⟩ v0).setCell ⟨X, 1, none⟩ v1).setCell ⟨X, 2, none⟩ v2).setCell ⟨X, 3, none⟩ v3).setCell ⟨X, 4, none⟩ v4) none := gS (gS (gS (gS (gS h hX _ _) hX _ _) hX _ _) hX _ _) hX _ _
theorem sets6 {W : World} {B : Nat} {t : TypeId} {x0 x1 x2 x3 x4 x5 : Value} (h : Bx W B t #[x0, x1, x2, x3, x4, x5]) (v0 v1 v2 v3 v4 v5 : Value) : Bx ((((((W.setCell ⟨B, 0, none⟩ v0).setCell ⟨B, 1, none⟩ v1).setCell ⟨B, 2, none⟩ v2).setCell ⟨B, 3, none⟩ v3).setCell ⟨B, 4, none⟩ v4).setCell ⟨B, 5, none⟩ v5) B t #[v0, v1, v2, v3, v4, v5] := by
  have h0 : Bx _ B t #[v0, x1, x2, x3, x4, x5] := h.s 0 v0
  have h1 : Bx _ B t #[v0, v1, x2, x3, x4, x5] := h0.s 1 v1
  have h2 : Bx _ B t #[v0, v1, v2, x3, x4, x5] := h1.s 2 v2
  have h3 : Bx _ B t #[v0, v1, v2, v3, x4, x5] := h2.s 3 v3
  have h4 : Bx _ B t #[v0, v1, v2, v3, v4, x5] := h3.s 4 v4
  have h5 : Bx _ B t #[v0, v1, v2, v3, v4, v5] := h4.s 5 v5
  exact h5
theorem gsets6 {w u : World} {X : Nat} {v0 v1 v2 v3 v4 v5 : Value} (h : w.grownBy u none) (hX : w.heap.size ≤ X) : w.grownBy ((((((u.setCell ⟨X, 0, none⟩ v0).setCell ⟨X, 1, none⟩ v1).setCell ⟨X, 2, none⟩ v2).setCell ⟨X, 3, none⟩ v3).setCell ⟨X, 4, none⟩ v4).setCell ⟨X, 5, none⟩ v5) none := gS (gS (gS (gS (gS (gS h hX _ _) hX _ _) hX _ _) hX _ _) hX _ _) hX _ _

def hostL (n : Int) : List UInt8 := [2, 0] ++ putL n 4
def pkD (a b f o s k g n : Int) (l : List Rg) (d : List UInt8) : List UInt8 := frameL (hostL b) (hostL a) (-1) 2048 (ipL a b 64 6 (s % 65536) (tcpL a b f o s k g n l d))
def pkB (tm a b f o s k g n : Int) (l : List Rg) (d : List UInt8) : Bool := inB tm 0 1000000000000 && decide (tcpG a b f o s k g n l d)
def pkV (tm a b f o s k g n : Int) (l : List Rg) (d : List UInt8) : Value := if pkB tm a b f o s k g n l d = true then .tuple #[.agg #[.int .i64 tm, .string ⟨(pkD a b f o s k g n l d).toArray⟩], .bool true] else .tuple #[.agg #[.int .i64 0, .string ⟨#[]⟩], .bool false]
theorem two_nought : ({ data := #[2, 0] } : ByteArray) = ⟨([2, 0] : List UInt8).toArray⟩ := rfl

set_option maxRecDepth 100000 in
theorem host_any (n : Int) (w : World) : Calls Try.prog 33 #[.int .i64 n] w (StrPost w (hostL n)) := by
  have hl := len_le n 4
  go_enter Try.func33, Try.ntmps33
  go_wp2_with fail
  refine (put_be_impl _ _ _).mono ?_
  rintro e w2 ⟨rfl, hg⟩
  have HG := Lib.hid hg
  clear hg
  go_wp2_with fail
  go_ret
  exact ⟨ret_ba (by rw [two_nought]; simp only [ba_append, hostL]), HG.out⟩

set_option maxRecDepth 100000 in
theorem mac_any (n : Int) (w : World) (h0 : 0 ≤ n) (h1 : n < 4294967296) : Calls Try.prog 55 #[.int .i64 n] w (StrPost w (hostL n)) := by
  have hl := len_le n 4
  have HP := Lib.hid (put4 h0 h1)
  go_enter Try.func55, Try.ntmps55
  go_wp2_with fail
  refine (be_int _ _ _ HP.out).mono ?_
  rintro e w2 ⟨rfl, hg⟩
  have HG := Lib.hid hg
  clear hg
  go_wp2_with fail
  go_ret
  exact ⟨ret_ba (by rw [two_nought]; simp only [ba_append, hostL]), HG.out⟩

set_option maxRecDepth 100000 in
theorem time_any (t : Int) (W : World) : Calls Try.prog 32 #[.int .i64 t] W fun e w' => e = .returned (.bool (inB t 0 1000000000000)) ∧ W = w' := by
  unfold inB
  by_cases h1 : 0 ≤ t
  · by_cases h2 : t ≤ 1000000000000
    · rw [decide_eq_true ⟨h1, h2⟩]
      go_enter Try.func32, Try.ntmps32
      go_wp2
      go_ret
      exact ⟨by first | rfl | simp [h2] | simp, rfl⟩
    · rw [decide_eq_false (by omega)]
      go_enter Try.func32, Try.ntmps32
      go_wp2
      go_ret
      exact ⟨by first | rfl | simp [h2] | simp, rfl⟩
  · rw [decide_eq_false (by omega)]
    go_enter Try.func32, Try.ntmps32
    go_wp2
    go_ret
    exact ⟨by first | rfl | simp [h1] | simp, rfl⟩
theorem tcp_some {a b f o s k g n : Int} {l : List Rg} {d : List UInt8} (h : tcpG a b f o s k g n l d) : (tcpL a b f o s k g n l d).isEmpty = false := by
  unfold tcpL
  rw [if_pos h]
  unfold tcpT tcpHd tcpOl
  have h2 : (putL f 2).length = 2 := two_len f h.2.2.1.1 (by have := h.2.2.1.2.1; omega)
  cases hp : putL f 2 with
  | nil => rw [hp] at h2; simp at h2
  | cons x y => rfl

set_option maxRecDepth 100000 in
set_option maxHeartbeats 4000000 in
theorem pk_impl (tm a b f o s k g n : Int) (p : Option Addr) (c : Nat) (l : List Rg) (d : List UInt8) (w : World) (h : RgAt w p l) : Calls Try.prog 15 #[.int .i64 tm, .int .i64 a, .int .i64 b, tcpV f o s k g n p c l d] w fun e w' => e = .returned (pkV tm a b f o s k g n l d) ∧ w.grownBy w' none := by
  unfold pkV pkB
  by_cases hG : tcpG a b f o s k g n l d
  · cases g1 : inB tm 0 1000000000000
    · simp only [Bool.false_and, Bool.false_eq_true, if_false]
      have H0 := Lib.hid (And.intro ((Bx.new w 36 #[.int .i64 f, .int .i64 o, .int .i64 s, .int .i64 k, .int .i64 g, .int .i64 n, .slice p l.length c, .string ⟨d.toArray⟩]).alloc (.cells #[.int .i64 0, .string ⟨#[]⟩] 42)) (And.intro (show Bx _ (w.heap.size + 1) 42 #[.int .i64 0, .string ⟨#[]⟩] by have h := Bx.new (w.alloc (.cells #[.int .i64 f, .int .i64 o, .int .i64 s, .int .i64 k, .int .i64 g, .int .i64 n, .slice p l.length c, .string ⟨d.toArray⟩] 36)) 42 #[.int .i64 0, .string ⟨#[]⟩]; simpa using h) (And.intro (gA (World.grownBy_alloc w (.cells #[.int .i64 f, .int .i64 o, .int .i64 s, .int .i64 k, .int .i64 g, .int .i64 n, .slice p l.length c, .string ⟨d.toArray⟩] 36) none) (.cells #[.int .i64 0, .string ⟨#[]⟩] 42)) (h.kept (gA (World.grownBy_alloc w (.cells #[.int .i64 f, .int .i64 o, .int .i64 s, .int .i64 k, .int .i64 g, .int .i64 n, .slice p l.length c, .string ⟨d.toArray⟩] 36) none) (.cells #[.int .i64 0, .string ⟨#[]⟩] 42))))))
      clear h
      obtain ⟨T, hT⟩ : ∃ T, T = tcpL a b f o s k g n l d := ⟨_, rfl⟩
      have HT := Lib.hid hT
      clear hT hG
      go_enter Try.func15, Try.ntmps15
      go_wp2_with fail
      refine (tcp_impl a b f o s k g n p c l d _ H0.out.2.2.2).mono ?_
      rintro e w1 ⟨rfl, hg⟩
      have H1 := Lib.hid (And.intro (H0.out.1.keep hg) (And.intro (H0.out.2.1.keep hg) (grownBy_trans H0.out.2.2.1 hg)))
      clear hg
      have HG := Lib.hid H1.out.2.2
      have t0 := H1.out.1.c 0 (x := .int .i64 f) rfl
      have t1 := H1.out.1.c 1 (x := .int .i64 o) rfl
      have t2 := H1.out.1.c 2 (x := .int .i64 s) rfl
      have t3 := H1.out.1.c 3 (x := .int .i64 k) rfl
      have t4 := H1.out.1.c 4 (x := .int .i64 g) rfl
      have t5 := H1.out.1.c 5 (x := .int .i64 n) rfl
      have t6 := H1.out.1.c 6 (x := .slice p l.length c) rfl
      have t7 := H1.out.1.c 7 (x := .string ⟨d.toArray⟩) rfl
      have r0 := H1.out.2.1.c 0 (x := .int .i64 0) rfl
      have r1 := H1.out.2.1.c 1 (x := .string ⟨#[]⟩) rfl
      have z0 := H1.out.2.1.f 0
      have z1 := H1.out.2.1.f 1
      have lr := H1.out.2.1.lt
      have lt := H1.out.1.lt
      rw [← HT.out]
      go_wp2_with (go_at_call 32; refine (time_any _ _).mono ?_; rintro e w2 ⟨rfl, rfl⟩; first | rw [g1] | skip)
      exact bodyPost_ret (v := .tuple #[.agg #[.int .i64 0, .string ⟨#[]⟩], .bool false]) (by simp [results, Try.results15, go_sem, r0, r1]) rfl ⟨rfl, by repeat (first | with_reducible refine gS ?_ (by first | omega | (simp; omega)) _ _ | with_reducible refine gA ?_ _ | with_reducible refine gD ?_ _ | with_reducible refine gd ?_ | with_reducible exact HG.out | with_reducible exact World.grownBy.refl _ _)⟩
    · rw [decide_eq_true hG]
      simp only [Bool.and_self, if_true]
      have hs0 : 0 ≤ s ∧ s < 4294967296 := ⟨hG.2.2.1.2.2.2.2.1, hG.2.2.1.2.2.2.2.2.1⟩
      have H0 := Lib.hid (And.intro ((Bx.new w 36 #[.int .i64 f, .int .i64 o, .int .i64 s, .int .i64 k, .int .i64 g, .int .i64 n, .slice p l.length c, .string ⟨d.toArray⟩]).alloc (.cells #[.int .i64 0, .string ⟨#[]⟩] 42)) (And.intro (show Bx _ (w.heap.size + 1) 42 #[.int .i64 0, .string ⟨#[]⟩] by have h := Bx.new (w.alloc (.cells #[.int .i64 f, .int .i64 o, .int .i64 s, .int .i64 k, .int .i64 g, .int .i64 n, .slice p l.length c, .string ⟨d.toArray⟩] 36)) 42 #[.int .i64 0, .string ⟨#[]⟩]; simpa using h) (And.intro (gA (World.grownBy_alloc w (.cells #[.int .i64 f, .int .i64 o, .int .i64 s, .int .i64 k, .int .i64 g, .int .i64 n, .slice p l.length c, .string ⟨d.toArray⟩] 36) none) (.cells #[.int .i64 0, .string ⟨#[]⟩] 42)) (h.kept (gA (World.grownBy_alloc w (.cells #[.int .i64 f, .int .i64 o, .int .i64 s, .int .i64 k, .int .i64 g, .int .i64 n, .slice p l.length c, .string ⟨d.toArray⟩] 36) none) (.cells #[.int .i64 0, .string ⟨#[]⟩] 42))))))
      clear h
      obtain ⟨T, hT⟩ : ∃ T, T = tcpL a b f o s k g n l d := ⟨_, rfl⟩
      have hne : T.isEmpty = false := by rw [hT]; exact tcp_some hG
      obtain ⟨hs1, hs2⟩ := hs0
      unfold pkD
      rw [← hT]
      have HT := Lib.hid hT
      clear hT hG
      go_enter Try.func15, Try.ntmps15
      go_wp2_with fail
      refine (tcp_impl a b f o s k g n p c l d _ H0.out.2.2.2).mono ?_
      rintro e w1 ⟨rfl, hg⟩
      have H1 := Lib.hid (And.intro (H0.out.1.keep hg) (And.intro (H0.out.2.1.keep hg) (grownBy_trans H0.out.2.2.1 hg)))
      clear hg
      have HG := Lib.hid H1.out.2.2
      have t0 := H1.out.1.c 0 (x := .int .i64 f) rfl
      have t1 := H1.out.1.c 1 (x := .int .i64 o) rfl
      have t2 := H1.out.1.c 2 (x := .int .i64 s) rfl
      have t3 := H1.out.1.c 3 (x := .int .i64 k) rfl
      have t4 := H1.out.1.c 4 (x := .int .i64 g) rfl
      have t5 := H1.out.1.c 5 (x := .int .i64 n) rfl
      have t6 := H1.out.1.c 6 (x := .slice p l.length c) rfl
      have t7 := H1.out.1.c 7 (x := .string ⟨d.toArray⟩) rfl
      have r0 := H1.out.2.1.c 0 (x := .int .i64 0) rfl
      have r1 := H1.out.2.1.c 1 (x := .string ⟨#[]⟩) rfl
      have z0 := H1.out.2.1.f 0
      have z1 := H1.out.2.1.f 1
      have lr := H1.out.2.1.lt
      have lt := H1.out.1.lt
      rw [← HT.out]
      go_upto_region 5 with (go_at_call 32; refine (time_any _ _).mono ?_; rintro e w2 ⟨rfl, rfl⟩; first | rw [g1] | skip)
      obtain ⟨w3, hw3⟩ : ∃ w3, w3 = w1.alloc (.cells #[.int .i64 a, .int .i64 b, .int .i64 64, .int .i64 6, .int .i64 (s % 65536), .string ⟨(T : List UInt8).toArray⟩] 32) := ⟨_, rfl⟩
      rw [← hw3]
      have H3 := Lib.hid (And.intro (hw3 ▸ Bx.new w1 32 #[.int .i64 a, .int .i64 b, .int .i64 64, .int .i64 6, .int .i64 (s % 65536), .string ⟨(T : List UInt8).toArray⟩] : Bx w3 w1.heap.size 32 #[.int .i64 a, .int .i64 b, .int .i64 64, .int .i64 6, .int .i64 (s % 65536), .string ⟨(T : List UInt8).toArray⟩]) (And.intro (hw3 ▸ H1.out.2.1.alloc _ : Bx w3 (w.heap.size + 1) 42 #[.int .i64 0, .string ⟨#[]⟩]) (hw3 ▸ gA H1.out.2.2 _ : w.grownBy w3 none)))
      clear t0 t1 t2 t3 t4 t5 t6 t7
      clear r0 r1
      clear z0 z1
      clear lr lt hw3
      generalize w1.heap.size = X at *
      go_cut [12] (fun s12 wx => ∃ B : Nat, s12 = .pointer (some ⟨B, 0, none⟩) ∧ Bx wx B 65 #[.string ⟨(hostL b).toArray⟩, .string ⟨(hostL a).toArray⟩, .int .i64 (-1), .int .i64 2048, .string ⟨((ipL a b 64 6 (s % 65536) T) : List UInt8).toArray⟩] ∧ w3.grownBy wx none)
      case first =>
        have u0 := H3.out.1.c 0 (x := .int .i64 a) rfl
        have u1 := H3.out.1.c 1 (x := .int .i64 b) rfl
        have u2 := H3.out.1.c 2 (x := .int .i64 64) rfl
        have u3 := H3.out.1.c 3 (x := .int .i64 6) rfl
        have u4 := H3.out.1.c 4 (x := .int .i64 (s % 65536)) rfl
        have u5 := H3.out.1.c 5 (x := .string ⟨(T : List UInt8).toArray⟩) rfl
        have lu := (H3.out.1).lt
        go_region_with (first | (go_at_call 33; refine (host_any b _).mono ?_; rintro e w5 ⟨rfl, hg⟩; have G2 := Lib.hid (show w3.grownBy w5 none from (by first | with_reducible exact hg | with_reducible exact grownBy_trans grownBy_drew hg | with_reducible exact grownBy_trans (World.grownBy_alloc _ _ _) hg | with_reducible exact grownBy_trans grownBy_drew (grownBy_trans (World.grownBy_alloc _ _ _) hg) | with_reducible exact grownBy_trans (World.grownBy_alloc _ _ _) (grownBy_trans grownBy_drew hg))); (first | have va := Lib.hid ((Bx.new _ 65 #[.string ⟨#[]⟩, .string ⟨#[]⟩, .int .i64 0, .int .i64 0, .string ⟨#[]⟩]).keep hg) | have va := Lib.hid (((Bx.new _ 65 #[.string ⟨#[]⟩, .string ⟨#[]⟩, .int .i64 0, .int .i64 0, .string ⟨#[]⟩]).keep (grownBy_drew (r := none))).keep hg) | skip); clear hg; have u0 := ((H3.out.1).keep G2.out).c 0 (x := .int .i64 a) rfl; have u1 := ((H3.out.1).keep G2.out).c 1 (x := .int .i64 b) rfl; have u2 := ((H3.out.1).keep G2.out).c 2 (x := .int .i64 64) rfl; have u3 := ((H3.out.1).keep G2.out).c 3 (x := .int .i64 6) rfl; have u4 := ((H3.out.1).keep G2.out).c 4 (x := .int .i64 (s % 65536)) rfl; have u5 := ((H3.out.1).keep G2.out).c 5 (x := .string ⟨(T : List UInt8).toArray⟩) rfl; have lu := ((H3.out.1).keep G2.out).lt) | (go_at_call 33; refine (host_any a _).mono ?_; rintro e w6 ⟨rfl, hg⟩; have G3 := Lib.hid (show w5.grownBy w6 none from (by first | with_reducible exact hg | with_reducible exact grownBy_trans grownBy_drew hg | with_reducible exact grownBy_trans (World.grownBy_alloc _ _ _) hg | with_reducible exact grownBy_trans grownBy_drew (grownBy_trans (World.grownBy_alloc _ _ _) hg) | with_reducible exact grownBy_trans (World.grownBy_alloc _ _ _) (grownBy_trans grownBy_drew hg))); (first | have vb := Lib.hid ((Bx.new _ 65 #[.string ⟨#[]⟩, .string ⟨#[]⟩, .int .i64 0, .int .i64 0, .string ⟨#[]⟩]).keep hg) | have vb := Lib.hid (((Bx.new _ 65 #[.string ⟨#[]⟩, .string ⟨#[]⟩, .int .i64 0, .int .i64 0, .string ⟨#[]⟩]).keep (grownBy_drew (r := none))).keep hg) | have vb := Lib.hid (va.out.keep hg) | skip); clear hg; have u0 := ((H3.out.1).keep (grownBy_trans G2.out G3.out)).c 0 (x := .int .i64 a) rfl; have u1 := ((H3.out.1).keep (grownBy_trans G2.out G3.out)).c 1 (x := .int .i64 b) rfl; have u2 := ((H3.out.1).keep (grownBy_trans G2.out G3.out)).c 2 (x := .int .i64 64) rfl; have u3 := ((H3.out.1).keep (grownBy_trans G2.out G3.out)).c 3 (x := .int .i64 6) rfl; have u4 := ((H3.out.1).keep (grownBy_trans G2.out G3.out)).c 4 (x := .int .i64 (s % 65536)) rfl; have u5 := ((H3.out.1).keep (grownBy_trans G2.out G3.out)).c 5 (x := .string ⟨(T : List UInt8).toArray⟩) rfl; have lu := ((H3.out.1).keep (grownBy_trans G2.out G3.out)).lt) | (go_at_call 34; refine (ip_impl a b 64 6 (s % 65536) T _).mono ?_; rintro e w7 ⟨rfl, hg⟩; have G4 := Lib.hid (show w6.grownBy w7 none from (by first | with_reducible exact hg | with_reducible exact grownBy_trans grownBy_drew hg | with_reducible exact grownBy_trans (World.grownBy_alloc _ _ _) hg | with_reducible exact grownBy_trans grownBy_drew (grownBy_trans (World.grownBy_alloc _ _ _) hg) | with_reducible exact grownBy_trans (World.grownBy_alloc _ _ _) (grownBy_trans grownBy_drew hg))); (first | have vc := Lib.hid ((Bx.new _ 65 #[.string ⟨#[]⟩, .string ⟨#[]⟩, .int .i64 0, .int .i64 0, .string ⟨#[]⟩]).keep hg) | have vc := Lib.hid (((Bx.new _ 65 #[.string ⟨#[]⟩, .string ⟨#[]⟩, .int .i64 0, .int .i64 0, .string ⟨#[]⟩]).keep (grownBy_drew (r := none))).keep hg) | have vc := Lib.hid (vb.out.keep hg) | skip); clear hg; try (have q0 := vc.out.c 0 (x := .string ⟨#[]⟩) rfl; have q1 := vc.out.c 1 (x := .string ⟨#[]⟩) rfl; have q2 := vc.out.c 2 (x := .int .i64 0) rfl; have q3 := vc.out.c 3 (x := .int .i64 0) rfl; have q4 := vc.out.c 4 (x := .string ⟨#[]⟩) rfl; have qf0 := vc.out.f 0; have qf1 := vc.out.f 1; have qf2 := vc.out.f 2; have qf3 := vc.out.f 3; have qf4 := vc.out.f 4)))
        all_goals
          go_wp2_with fail
          go_meet
          have G5 := grownBy_trans (grownBy_trans G2.out G3.out) G4.out
          first
            | exact ⟨_, rfl, by with_reducible exact Bx.new _ _ _, by with_reducible exact grownBy_trans G5 (World.grownBy_alloc _ _ none)⟩
            | exact ⟨_, rfl, by with_reducible exact sets5 vc.out _ _ _ _ _, by with_reducible exact gsets5 G5 (Nat.le_of_lt lu)⟩
            | exact ⟨_, rfl, by with_reducible exact sets5 vc.out _ _ _ _ _, by with_reducible exact gsets5 G5 (by have := G2.out.size; omega)⟩
            | exact ⟨_, rfl, by with_reducible exact sets5 vc.out _ _ _ _ _, by with_reducible exact gsets5 G5 (by have := G2.out.size; have := G3.out.size; omega)⟩
            | exact ⟨_, rfl, by with_reducible exact sets5 vc.out _ _ _ _ _, by with_reducible exact gsets5 G5 (by have := G2.out.size; have := G3.out.size; have := G4.out.size; omega)⟩
            | exact ⟨_, rfl, by with_reducible exact sets5 vc.out _ _ _ _ _, by with_reducible exact gsets5 G5 (Nat.le_refl _)⟩
      case rest =>
        obtain ⟨B, rfl, hbx, hg⟩ := hcut
        have H5 := Lib.hid (And.intro (H3.out.2.1.keep hg) (And.intro hbx (grownBy_trans H3.out.2.2 hg)))
        clear hg hbx
        generalize hwc : wc = w8 at *
        clear hwc
        have v0 := H5.out.2.1.c 0 (x := .string ⟨(hostL b).toArray⟩) rfl
        have v1 := H5.out.2.1.c 1 (x := .string ⟨(hostL a).toArray⟩) rfl
        have v2 := H5.out.2.1.c 2 (x := .int .i64 (-1)) rfl
        have v3 := H5.out.2.1.c 3 (x := .int .i64 2048) rfl
        have v4 := H5.out.2.1.c 4 (x := .string ⟨((ipL a b 64 6 (s % 65536) T) : List UInt8).toArray⟩) rfl
        have lv := H5.out.2.1.lt
        go_wp2_with fail
        refine (frame_impl (hostL b) (hostL a) (-1) 2048 (ipL a b 64 6 (s % 65536) T) _).mono ?_
        rintro e w9 ⟨rfl, hg⟩
        have HG := Lib.hid (grownBy_trans H5.out.2.2 hg)
        have HR := Lib.hid (H5.out.1.keep hg)
        clear hg lv v0 v1 v2 v3 v4
        have r0 := HR.out.c 0 (x := .int .i64 0) rfl
        have r1 := HR.out.c 1 (x := .string ⟨#[]⟩) rfl
        have z0 := HR.out.f 0
        have z1 := HR.out.f 1
        have lr := HR.out.lt
        go_wp2_with fail
        exact bodyPost_ret (v := .tuple #[.agg #[.int .i64 tm, .string ⟨(frameL (hostL b) (hostL a) (-1) 2048 (ipL a b 64 6 (s % 65536) T)).toArray⟩], .bool true]) (by simp [results, Try.results15, go_sem, r0, r1]) rfl ⟨rfl, by repeat (first | with_reducible refine gS ?_ (by first | omega | (simp; omega)) _ _ | with_reducible refine gA ?_ _ | with_reducible refine gD ?_ _ | with_reducible refine gd ?_ | with_reducible exact HG.out | with_reducible exact World.grownBy.refl _ _)⟩
  · simp only [decide_eq_false hG, Bool.and_false, Bool.false_eq_true, if_false]
    have hT : tcpL a b f o s k g n l d = [] := if_neg hG
    have HT := Lib.hid hT
    clear hT
    have H0 := Lib.hid (And.intro ((Bx.new w 36 #[.int .i64 f, .int .i64 o, .int .i64 s, .int .i64 k, .int .i64 g, .int .i64 n, .slice p l.length c, .string ⟨d.toArray⟩]).alloc (.cells #[.int .i64 0, .string ⟨#[]⟩] 42)) (And.intro (show Bx _ (w.heap.size + 1) 42 #[.int .i64 0, .string ⟨#[]⟩] by have h := Bx.new (w.alloc (.cells #[.int .i64 f, .int .i64 o, .int .i64 s, .int .i64 k, .int .i64 g, .int .i64 n, .slice p l.length c, .string ⟨d.toArray⟩] 36)) 42 #[.int .i64 0, .string ⟨#[]⟩]; simpa using h) (And.intro (gA (World.grownBy_alloc w (.cells #[.int .i64 f, .int .i64 o, .int .i64 s, .int .i64 k, .int .i64 g, .int .i64 n, .slice p l.length c, .string ⟨d.toArray⟩] 36) none) (.cells #[.int .i64 0, .string ⟨#[]⟩] 42)) (h.kept (gA (World.grownBy_alloc w (.cells #[.int .i64 f, .int .i64 o, .int .i64 s, .int .i64 k, .int .i64 g, .int .i64 n, .slice p l.length c, .string ⟨d.toArray⟩] 36) none) (.cells #[.int .i64 0, .string ⟨#[]⟩] 42))))))
    clear h
    clear hG
    cases g1 : inB tm 0 1000000000000
    all_goals
      go_enter Try.func15, Try.ntmps15
      go_wp2_with fail
      refine (tcp_impl a b f o s k g n p c l d _ H0.out.2.2.2).mono ?_
      rintro e w1 ⟨rfl, hg⟩
      have H1 := Lib.hid (And.intro (H0.out.1.keep hg) (And.intro (H0.out.2.1.keep hg) (grownBy_trans H0.out.2.2.1 hg)))
      clear hg
      have HG := Lib.hid H1.out.2.2
      have t0 := H1.out.1.c 0 (x := .int .i64 f) rfl
      have t1 := H1.out.1.c 1 (x := .int .i64 o) rfl
      have t2 := H1.out.1.c 2 (x := .int .i64 s) rfl
      have t3 := H1.out.1.c 3 (x := .int .i64 k) rfl
      have t4 := H1.out.1.c 4 (x := .int .i64 g) rfl
      have t5 := H1.out.1.c 5 (x := .int .i64 n) rfl
      have t6 := H1.out.1.c 6 (x := .slice p l.length c) rfl
      have t7 := H1.out.1.c 7 (x := .string ⟨d.toArray⟩) rfl
      have r0 := H1.out.2.1.c 0 (x := .int .i64 0) rfl
      have r1 := H1.out.2.1.c 1 (x := .string ⟨#[]⟩) rfl
      have z0 := H1.out.2.1.f 0
      have z1 := H1.out.2.1.f 1
      have lr := H1.out.2.1.lt
      have lt := H1.out.1.lt
      rw [HT.out]
      go_wp2_with (go_at_call 32; refine (time_any _ _).mono ?_; rintro e w2 ⟨rfl, rfl⟩; first | rw [g1] | skip)
      exact bodyPost_ret (v := .tuple #[.agg #[.int .i64 0, .string ⟨#[]⟩], .bool false]) (by simp [results, Try.results15, go_sem, r0, r1]) rfl ⟨rfl, by repeat (first | with_reducible refine gS ?_ (by first | omega | (simp; omega)) _ _ | with_reducible refine gA ?_ _ | with_reducible refine gD ?_ _ | with_reducible refine gd ?_ | with_reducible exact HG.out | with_reducible exact World.grownBy.refl _ _)⟩

end Go.Proofs.Ytihaamgimakcoaa
