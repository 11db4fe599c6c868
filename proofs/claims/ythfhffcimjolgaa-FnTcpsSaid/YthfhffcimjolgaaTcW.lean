/- The program's reading of a segment. -/
import Derived.Test.YthfhffcimjolgaaTcV
import Derived.Laws.Tables
namespace Go.Proofs.Ythfhffcimjolgaa
open Go.RowKit

theorem results_world {P : Program} {fn : Func} {p q : Tmp} {ty : TypeId} (h : fn.results = #[.cell p ty, .tmp q]) (tmps : Array Value) (w : World) (g : Nat) (t : TypeId) (cs : Array Value) (fr : Nat × Nat) (d : TypeDesc) (v : Value)
    (hp : tmps.getD p undef = .pointer (some ⟨g, 0, none⟩)) (hv : tmps.getD q undef = v) (hg : w.heap[g]? = some (.cells cs t fr))
    (hu : P.underlying ty = some d) (hd : (match d with | .struct _ | .array _ _ => true | _ => false) = true) (hi : (P.info? ty).map (·.size) = some cs.size) :
    (results fn tmps).run P w = .ok (.tuple #[.agg cs, v]) w := by
  have hp' : tmps[p]?.getD undef = .pointer (some ⟨g, 0, none⟩) := by simpa using hp
  have hv' : tmps[q]?.getD undef = v := by simpa using hv
  simp [results, h, hp', hv', asAddr, run_loadVar_row w g t ty cs fr d hg hu hd hi]
theorem info_t : (Try.prog.info? 26).map (·.size) = some 8 := by kernel_rfl
theorem row_grown8 {w W : World} {C : Nat} (h : w.grownBy W none) (hC : w.heap.size ≤ C) (ys : Array Value) : w.grownBy (W.setRow C ys) none :=
  ⟨h.os, h.tape, h.output, by rw [setRow_size]; exact h.size, fun k hk hx => (setRow_other W C k ys (by omega)).trans (h.block k hk hx)⟩
theorem rg_row8 {B C : Nat} {W : World} {a : Option Addr} {l : List Rg} (h : RgFr B W a l) (hC : C < B) (ys : Array Value) : RgAt (W.setRow C ys) a l := by
  rcases h.1 with h0 | ⟨b, off, rfl, h2, h3⟩
  · exact .inl h0
  · have hb : B ≤ b := h.2 _ rfl
    exact .inr ⟨b, off, rfl, by rw [setRow_size]; exact h2, fun i hi => ⟨(cell_setRow_other W C ys _ (by simp; omega)).trans (h3 i hi).1, (cell_setRow_other W C ys _ (by simp; omega)).trans (h3 i hi).2⟩⟩
theorem rg_cell8 {B C j : Nat} {v : Value} {W : World} {a : Option Addr} {l : List Rg} (h : RgFr B W a l) (hC : C < B) : RgFr B (W.setCell ⟨C, j, none⟩ v) a l := by
  refine ⟨?_, h.2⟩
  rcases h.1 with h0 | ⟨b, off, rfl, h2, h3⟩
  · exact .inl h0
  · have hb : B ≤ b := h.2 _ rfl
    exact .inr ⟨b, off, rfl, by simpa [World.setCell] using h2, fun i hi => ⟨(World.cell?_setCell_far _ _ _ _ (by simp; omega)).trans (h3 i hi).1, (World.cell?_setCell_far _ _ _ _ (by simp; omega)).trans (h3 i hi).2⟩⟩
theorem RgFr.kept {B : Nat} {W W' : World} {a : Option Addr} {l : List Rg} (h : RgFr B W a l) (hg : W.grownBy W' none) : RgFr B W' a l := ⟨h.1.kept hg, h.2⟩
theorem head_cells {w w' : World} {H : Nat} {f o s k g n : Int} {a d : Value} {h m u : Int} (hm : Mine w (headCells H f o s k g n a d h m u) w') : w'.cell? ⟨H, 0, none⟩ = some (.int .i64 f) ∧ w'.cell? ⟨H, 1, none⟩ = some (.int .i64 o) ∧ w'.cell? ⟨H, 2, none⟩ = some (.int .i64 s) ∧ w'.cell? ⟨H, 3, none⟩ = some (.int .i64 k) ∧ w'.cell? ⟨H, 4, none⟩ = some (.int .i64 g) ∧ w'.cell? ⟨H, 5, none⟩ = some (.int .i64 n) ∧ w'.cell? ⟨H, 6, none⟩ = some a ∧ w'.cell? ⟨H, 7, none⟩ = some d ∧ w'.cell? ⟨H, 8, none⟩ = some (.int .i64 h) ∧ w'.frozen? ⟨H, 6, none⟩ = false ∧ w'.frozen? ⟨H, 7, none⟩ = false :=
  ⟨hm.cell ⟨H, 0, none⟩ (.int .i64 f) (by simp [headCells]), hm.cell ⟨H, 1, none⟩ (.int .i64 o) (by simp [headCells]), hm.cell ⟨H, 2, none⟩ (.int .i64 s) (by simp [headCells]), hm.cell ⟨H, 3, none⟩ (.int .i64 k) (by simp [headCells]), hm.cell ⟨H, 4, none⟩ (.int .i64 g) (by simp [headCells]), hm.cell ⟨H, 5, none⟩ (.int .i64 n) (by simp [headCells]), hm.cell ⟨H, 6, none⟩ a (by simp [headCells]), hm.cell ⟨H, 7, none⟩ d (by simp [headCells]), hm.cell ⟨H, 8, none⟩ (.int .i64 h) (by simp [headCells]), hm.free ⟨H, 6, none⟩ a (by simp [headCells]), hm.free ⟨H, 7, none⟩ d (by simp [headCells])⟩
theorem head_six {w a' : World} {H : Nat} {f o s k g n : Int} {a d : Value} {h m u : Int} (x : Value) (hm : Mine w (headCells H f o s k g n a d h m u) a') : Mine w (headCells H f o s k g n x d h m u) (a'.setCell ⟨H, 6, none⟩ x) := by
  have h1 := hm.set ⟨H, 6, none⟩ a x (by simp [headCells])
  simpa [headCells] using h1
theorem head_seven {w a' : World} {H : Nat} {f o s k g n : Int} {a d : Value} {h m u : Int} (x : Value) (hm : Mine w (headCells H f o s k g n a d h m u) a') : Mine w (headCells H f o s k g n a x h m u) (a'.setCell ⟨H, 7, none⟩ x) := by
  have h1 := hm.set ⟨H, 7, none⟩ d x (by simp [headCells])
  simpa [headCells] using h1

theorem getBe_bd (l : List UInt8) : -1 ≤ getBe l ∧ getBe l < 281474976710656 := by
  unfold getBe
  split
  · have h0 := getN_nonneg l l.length
    have h1 := getN_small6 l l.length (by omega)
    omega
  · omega
def Fr8 (w w2 : World) (b : Nat) (ps : List Part) (l : List UInt8) (H j : Nat) (r : List UInt8) (w1 : World) : Prop := FreshP w w2 b ps l j r w1 ∧ ∃ x : Int, w1.cell? ⟨H, 8, none⟩ = some (.int .i64 x) ∧ -1 ≤ x ∧ x < 281474976710656
theorem get_fresh8 (H b c : Nat) (ps : List Part) (l : List UInt8) (w w2 : World) (hl : l.length ≤ 1000000000000) (hn : ps.length ≤ 100) (hz : ∀ p ∈ ps, 0 ≤ p.szI ∧ p.szI ≤ 1000)
    (hg : w.grownBy w2 none) (hc : ∀ i (h : i < ps.length), w2.cell? ⟨b, i, none⟩ = some ps[i].val) (hp : PlacesAt w w2 b ps) (h8 : ∃ x : Int, w2.cell? ⟨H, 8, none⟩ = some (.int .i64 x) ∧ -1 ≤ x ∧ x < 281474976710656) (ht : ∀ p ∈ ps, ∀ a sz, p ≠ .txt a sz) :
    Calls Try.prog 25 #[.string ⟨l.toArray⟩, .slice (some ⟨b, 0, none⟩) ps.length c] w2 (GetPost ps l (Fr8 w w2 b ps l H)) := by
  refine get_parts b c ps l w2 (Fr8 w w2 b ps l H) hl hn hz ⟨⟨hg, Nat.le_refl _, hc, fun a v _ h => h, fun a v hv => ⟨v, hv, rfl⟩⟩, h8⟩ (fun j r w1 w3 h k => ⟨fresh_grown h.1 k, by obtain ⟨x, h1, h2⟩ := h.2; exact ⟨x, k.cell h1 (by simp), h2⟩⟩) (fun j r w1 h hP => hP.1.parts j h) ?_ ?_ ?_
  · intro j r w1 n sz hj he _ hP
    refine ⟨⟨hP.1.grown, hP.1.size, hP.1.parts, hP.1.free, fun a v hv => ?_⟩, hP.2⟩
    obtain ⟨u, hu, hk⟩ := hP.1.cells a v hv
    refine ⟨u, hu, ?_⟩
    rw [← hk, upd_at ps j hj, he, updL]
  · intro j r w1 a sz hj he _ hP
    obtain ⟨⟨v, hv⟩, h2, h3, h4, h5⟩ := hp ps[j] (List.getElem_mem hj) a (by rw [he]; rfl)
    obtain ⟨u, hu, _⟩ := hP.1.cells a v hv
    refine ⟨⟨u, hu⟩, hP.1.free a v hv h2, fresh_set a _ hP.1 ⟨v, hv⟩ h3 h4 h5 ?_, ?_⟩
    · intro a' u'
      rw [upd_at ps j hj, he, updL]
    · obtain ⟨x, hx, hb⟩ := hP.2
      by_cases ha : a = ⟨H, 8, none⟩
      · subst ha
        exact ⟨_, World.cell?_setCell_same _ _ _ hx, getBe_bd _⟩
      · exact ⟨x, by rw [World.cell?_setCell_other _ _ _ _ ha]; exact hx, hb⟩
  · intro j r w1 a sz hj he _ hP
    exact absurd he (ht _ (List.getElem_mem hj) a sz)
theorem tcp_notxt (H : Nat) : ∀ p ∈ tcpParts H, ∀ a sz, p ≠ .txt a sz := by
  intro q hq a sz
  simp only [tcpParts, List.mem_cons, List.not_mem_nil, or_false] at hq
  rcases hq with rfl | rfl | rfl | rfl | rfl | rfl | rfl | rfl | rfl <;> simp
theorem get_not8 (H b c : Nat) (l : List UInt8) (w w1 w2 : World) (f o s k g n : Int) (a d : Value) (m u : Int) (he : getsL (tcpParts H) l = none) (hl : l.length ≤ 1000000000000)
    (hm : Mine w (headCells H f o s k g n a d 0 m u) w1) (hb : w1.heap.size ≤ b) (hg : w1.grownBy w2 none) (hc : ∀ i (h : i < (tcpParts H).length), w2.cell? ⟨b, i, none⟩ = some (tcpParts H)[i].val) :
    Calls Try.prog 25 #[.string ⟨l.toArray⟩, .slice (some ⟨b, 0, none⟩) (tcpParts H).length c] w2 fun e w' => e = .returned (.tuple #[.string ⟨#[]⟩, .bool false]) ∧ w.grownBy w' none ∧ ∃ x : Int, w'.cell? ⟨H, 8, none⟩ = some (.int .i64 x) ∧ -1 ≤ x ∧ x < 281474976710656 := by
  refine (get_fresh8 H b c (tcpParts H) l w w2 hl (tcp_sizes H).1 (tcp_sizes H).2 (grownBy_trans hm.grown hg) hc (places_of hm hb hg (tcp_places H f o s k g n a d 0 m u)) ⟨0, (head_cells (hm.kept hg)).2.2.2.2.2.2.2.2.1, by omega, by omega⟩ (tcp_notxt H)).mono ?_
  intro e w' h
  unfold GetPost at h
  rw [he] at h
  obtain ⟨h1, j, r, h2⟩ := h
  exact ⟨h1, h2.1.grown, h2.2⟩
theorem goes_yes {a : Int} (h : 0 ≤ a ∧ a < 4294967296) : goesB a = true := by unfold goesB; simp; omega

set_option maxRecDepth 100000 in
set_option maxHeartbeats 4000000 in
theorem read_I (a b : Int) (s : List UInt8) (w : World) (ha : 0 ≤ a ∧ a < 4294967296) (hb : 0 ≤ b ∧ b < 4294967296) (hl : s.length ≤ 1000000000000) :
    Calls Try.prog 8 #[.int .i64 a, .int .i64 b, .string ⟨s.toArray⟩] w (TrPost w s (fG s) (rdT a b (fG s) s)) := by
  have HG := Lib.hid (And.intro (goes_yes ha) (goes_yes hb))
  obtain ⟨C0, hC0⟩ : ∃ C, C = w.heap.size := ⟨_, rfl⟩
  have hx := And.intro (World.grownBy_alloc w (.cells #[.int .i64 0, .int .i64 0, .int .i64 0, .int .i64 0, .int .i64 0, .int .i64 0, .slice none 0 0, .string ⟨#[]⟩] 26) none) (Bx.new w 26 #[.int .i64 0, .int .i64 0, .int .i64 0, .int .i64 0, .int .i64 0, .int .i64 0, .slice none 0 0, .string ⟨#[]⟩])
  rw [← hC0] at hx
  have HB := Lib.hid hx
  have HC0 := Lib.hid hC0
  clear hx
  go_enter Try.func8, Try.ntmps8
  go_upto_region 1 with fail
  try rw [← hC0]
  clear hC0
  generalize w.alloc (.cells #[.int .i64 0, .int .i64 0, .int .i64 0, .int .i64 0, .int .i64 0, .int .i64 0, .slice none 0 0, .string ⟨#[]⟩] 26) = w1 at *
  by_cases h300 : s.length ≤ 300
  · have h3 : ¬ (300 : Int) < (s.length : Int) := by omega
    have HH := Lib.hid (And.intro ha hb)
    clear ha hb
    go_wp2_with (go_at_call 18; refine (goes_any _ _).mono ?_; rintro e w' ⟨rfl, rfl⟩; first | rw [HG.out.1] | rw [HG.out.2])
    refine (seg_impl a b s _ HH.out.1 HH.out.2 (by omega)).mono ?_
    rintro e w2 ⟨rfl, hg⟩
    have H2 := Lib.hid (And.intro (grownBy_trans HB.out.1 hg) (HB.out.2.keep hg))
    clear hg HB
    obtain ⟨z, hz⟩ : ∃ z, segSum a b s = z := ⟨_, rfl⟩
    rw [hz]
    by_cases hz0 : z = 0
    · subst hz0
      have HZ := Lib.hid hz
      clear hz
      have hzb : ((0 : Int) != 0) = false := rfl
      have hf := head_new w2 0 0 0 0 0 0 (.slice none 0 0) (.string ⟨#[]⟩) 0 0 0 44
      have HF := Lib.hid hf
      have hlt := H2.out.2.lt
      clear hf
      go_upto_region 4 with fail
      obtain ⟨H, hH⟩ : ∃ H, H = w2.heap.size := ⟨_, rfl⟩
      rw [← hH] at HF hlt
      try rw [← hH]
      have HSZ := Lib.hid (show (w2.alloc (.cells #[.int .i64 0, .int .i64 0, .int .i64 0, .int .i64 0, .int .i64 0, .int .i64 0, .slice none 0 0, .string ⟨#[]⟩, .int .i64 0, .int .i64 0, .int .i64 0] 44)).heap.size = H + 1 by rw [hH]; simp)
      have HH2 := Lib.hid hH
      clear hH
      generalize w2.alloc (.cells #[.int .i64 0, .int .i64 0, .int .i64 0, .int .i64 0, .int .i64 0, .int .i64 0, .slice none 0 0, .string ⟨#[]⟩, .int .i64 0, .int .i64 0, .int .i64 0] 44) = w3 at *
      have HS := Lib.hid (gets_tcp H s)
      have HC := Lib.hid (tcp_sizes H)
      go_wp2_with fail
      refine (tcp_parts _ _).mono ?_
      rintro e w4 ⟨pb, pc, rfl, hpb, hg, hpc⟩
      have HP := Lib.hid (And.intro hpb (And.intro hg hpc))
      clear hpb hg hpc
      go_wp2_with fail
      by_cases h20 : 20 ≤ s.length
      · rw [if_pos h20] at HS
        refine (get_there pb pc _ s _ w2 w3 w4 _ HS.out (by omega) HC.out.1 HC.out.2 (tcp_places _ _ _ _ _ _ _ _ _ _ _ _) HF.out HP.out.1 HP.out.2.1 HP.out.2.2).mono ?_
        rintro e w5 ⟨rfl, hm⟩
        rw [tcp_read] at hm
        have HM := Lib.hid hm
        have H5 := Lib.hid (And.intro (grownBy_trans H2.out.1 hm.grown) (H2.out.2.keep hm.grown))
        clear hm HP HF HS H2
        obtain ⟨-, -, -, -, -, -, -, -, c8, -, -⟩ := head_cells HM.out
        obtain ⟨hb0, hb1⟩ := fH_bd s h20
        obtain ⟨n, hn⟩ := Int.eq_ofNat_of_zero_le hb0
        rw [hn] at c8
        have hn2 : n < 256 := by omega
        obtain ⟨k, hk⟩ : ∃ k, k = n / 16 * 4 := ⟨_, rfl⟩
        have hkl : hdL s = k := by unfold hdL; rw [hn, hk]; simp
        have hk60 : k ≤ 60 := by omega
        obtain ⟨ov, hov⟩ : ∃ ov : Int, ov = (n : Int) / 16 * 4 - 20 := ⟨_, rfl⟩
        have hovk : ov = (k : Int) - 20 := by omega
        have HKL := Lib.hid hkl
        have HOK := Lib.hid hovk
        clear hkl hb0 hb1 hn HC hovk
        go_upto_region 6 with fail
        rw [← hov]
        clear hov hk c8 hn2
        have hdl : ((s.drop 20).length : Int) = (s.length : Int) - 20 := by simp; omega
        have HDL := Lib.hid hdl
        clear hdl
        obtain ⟨D, hD⟩ : ∃ D, D = s.drop 20 := ⟨_, rfl⟩
        rw [← hD] at HDL
        try rw [← hD]
        have HD := Lib.hid hD
        clear hD
        by_cases hk20 : k < 20
        · have o1 : ov < 0 := by have := HOK.out; omega
          have HN := Lib.hid (rd_no (a := a) (b := b) (g := fG s) (s := s) (fun h => by have := h.2.2.2.1; rw [HKL.out] at this; omega))
          clear hk20
          go_wp2_with (refine wpList_store_row rfl 26 _ _ rfl C0 #[.int .i64 0, .int .i64 0, .int .i64 0, .int .i64 0, .int .i64 0, .int .i64 0, .slice none 0 0, .string ⟨#[]⟩] rfl rfl 26 _ H5.out.2 info_t rfl (by simp [Value.oneCell']) ?_)
          refine bodyPost_ret (v := .tuple #[zeroT, .bool false]) (results_world Try.results8 _ _ C0 26 #[.int .i64 0, .int .i64 0, .int .i64 0, .int .i64 0, .int .i64 0, .int .i64 0, .slice none 0 0, .string ⟨#[]⟩] (0, 0) _ _ rfl rfl (setRow_heap w5 C0 _ _ 26 (0, 0) H5.out.2) Try.underlying26 rfl info_t) rfl ?_
          rw [HN.out]
          exact ⟨rfl, row_grown8 H5.out.1 (Nat.le_of_eq HC0.out.symm) _⟩
        · by_cases hks : k ≤ s.length
          · obtain ⟨m, hm⟩ : ∃ m, k = m + 20 := ⟨k - 20, by omega⟩
            obtain rfl : ov = (m : Int) := by have := HOK.out; omega
            have hdl2 := HDL.out
            have o1 : ¬ (m : Int) < 0 := by omega
            have o2 : ¬ (D.length : Int) < (m : Int) := by omega
            have o3 : (0 : Int) ≤ (m : Int) := by omega
            have o4 : (m : Int) ≤ (D.length : Int) := by omega
            have hmD : m ≤ D.length := by omega
            have HRD := Lib.hid (show rdS s = optS ((D.take m).length + 1) (D.take m) [] by unfold rdS opL; rw [HKL.out, ← HD.out, show k - 20 = m by omega])
            have HHD := Lib.hid (show rdH a b s from ⟨h300, HZ.out, h20, by rw [HKL.out]; omega, by rw [HKL.out]; omega⟩)
            have HDR := Lib.hid (show s.drop (hdL s) = D.drop m by rw [HKL.out, HD.out, List.drop_drop, hm, Nat.add_comm])
            clear hm hk20 hks hdl2
            obtain ⟨O, hO⟩ : ∃ O, O = D.take m := ⟨_, rfl⟩
            have hOl : O.length ≤ 1000 := by rw [hO, List.length_take]; have := HDL.out; omega
            rw [← hO] at HRD
            have HO := Lib.hid hO
            clear hO
            have HEX := Lib.hid (show ({ data := D.toArray } : ByteArray).extract 0 m = ⟨O.toArray⟩ by rw [str_mid, HO.out]; simp)
            have HEY := Lib.hid (show ({ data := D.toArray } : ByteArray).extract m D.length = ⟨(D.drop m).toArray⟩ by rw [str_mid, List.take_of_length_le (by simp)])
            go_wp2_with fail
            try simp only [HEX.out]
            obtain ⟨R, hR⟩ : ∃ R, R = optS (O.length + 1) O [] := ⟨_, rfl⟩
            rw [← hR] at HRD
            cases R with
            | none =>
              have HN := Lib.hid (rd_opt (a := a) (b := b) (g := fG s) HRD.out)
              refine (sacks_none O _ hOl hR.symm).mono ?_
              rintro e w6 ⟨ra, rc, rl, ok, rfl, hrg, hg, hok⟩
              rcases hok with ⟨hok, _⟩ | ⟨_, rfl, rfl⟩
              · cases hok
              have HM6 := Lib.hid (HM.out.kept hg)
              have H6 := Lib.hid (And.intro (grownBy_trans H5.out.1 hg) (H5.out.2.keep hg))
              clear hrg hg hR HM H5
              obtain ⟨-, -, -, -, -, -, c6, -, -, f6, -⟩ := head_cells HM6.out
              have HM7 := Lib.hid (head_six (.slice ra ([] : List Rg).length rc) HM6.out)
              have H7 := Lib.hid (show w.grownBy (w6.setCell ⟨H, 6, none⟩ (.slice ra ([] : List Rg).length rc)) none ∧ Bx (w6.setCell ⟨H, 6, none⟩ (.slice ra ([] : List Rg).length rc)) C0 26 #[.int .i64 0, .int .i64 0, .int .i64 0, .int .i64 0, .int .i64 0, .int .i64 0, .slice none 0 0, .string ⟨#[]⟩] from ⟨gS H6.out.1 (by have := HC0.out; omega) _ _, H6.out.2.other (by omega) _ _⟩)
              go_upto_region 9 with fail
              clear c6 f6 HM6 H6
              generalize w6.setCell ⟨H, 6, none⟩ (.slice ra ([] : List Rg).length rc) = w7 at *
              obtain ⟨-, -, -, -, -, -, -, c7, -, -, f7⟩ := head_cells HM7.out
              have H8 := Lib.hid (show w.grownBy (w7.setCell ⟨H, 7, none⟩ (.string ⟨(D.drop m).toArray⟩)) none ∧ Bx (w7.setCell ⟨H, 7, none⟩ (.string ⟨(D.drop m).toArray⟩)) C0 26 #[.int .i64 0, .int .i64 0, .int .i64 0, .int .i64 0, .int .i64 0, .int .i64 0, .slice none 0 0, .string ⟨#[]⟩] from ⟨gS H7.out.1 (by have := HC0.out; omega) _ _, H7.out.2.other (by omega) _ _⟩)
              go_upto_region 10 with fail
              try simp only [HEY.out]
              clear c7 f7 HM7 H7
              generalize w7.setCell ⟨H, 7, none⟩ (.string ⟨(D.drop m).toArray⟩) = w8 at *
              go_wp2_with (refine wpList_store_row rfl 26 _ _ rfl C0 #[.int .i64 0, .int .i64 0, .int .i64 0, .int .i64 0, .int .i64 0, .int .i64 0, .slice none 0 0, .string ⟨#[]⟩] rfl rfl 26 _ H8.out.2 info_t rfl (by simp [Value.oneCell']) ?_)
              refine bodyPost_ret (v := .tuple #[zeroT, .bool false]) (results_world Try.results8 _ _ C0 26 #[.int .i64 0, .int .i64 0, .int .i64 0, .int .i64 0, .int .i64 0, .int .i64 0, .slice none 0 0, .string ⟨#[]⟩] (0, 0) _ _ rfl rfl (setRow_heap w8 C0 _ _ 26 (0, 0) H8.out.2) Try.underlying26 rfl info_t) rfl ?_
              rw [HN.out]
              exact ⟨rfl, row_grown8 H8.out.1 (Nat.le_of_eq HC0.out.symm) _⟩
            | some l =>
              refine (sacks_some O l _ hOl hR.symm).mono ?_
              rintro e w6 ⟨ra, rc, rl, ok, rfl, hrg, hg, hok⟩
              rcases hok with ⟨hok, rfl⟩ | ⟨hok, _⟩
              rotate_left
              · cases hok
              obtain rfl := Option.some.inj hok
              have HM6 := Lib.hid (HM.out.kept hg)
              have H6 := Lib.hid (And.intro (grownBy_trans H5.out.1 hg) (H5.out.2.keep hg))
              have HLT := Lib.hid (show H < w5.heap.size by have q := (head_cells HM.out).2.2.2.2.2.2.2.2.1; exact cell_in q)
              have HR6 := Lib.hid hrg
              clear hrg hg hok hR HM H5
              obtain ⟨-, -, -, -, -, -, c6, -, -, f6, -⟩ := head_cells HM6.out
              have HM7 := Lib.hid (head_six (.slice ra l.length rc) HM6.out)
              have H7 := Lib.hid (show w.grownBy (w6.setCell ⟨H, 6, none⟩ (.slice ra l.length rc)) none ∧ Bx (w6.setCell ⟨H, 6, none⟩ (.slice ra l.length rc)) C0 26 #[.int .i64 0, .int .i64 0, .int .i64 0, .int .i64 0, .int .i64 0, .int .i64 0, .slice none 0 0, .string ⟨#[]⟩] ∧ RgFr w5.heap.size (w6.setCell ⟨H, 6, none⟩ (.slice ra l.length rc)) ra l from ⟨gS H6.out.1 (by have := HC0.out; omega) _ _, H6.out.2.other (by omega) _ _, rg_cell8 HR6.out HLT.out⟩)
              go_upto_region 9 with fail
              clear c6 f6 HM6 H6 HR6
              generalize w6.setCell ⟨H, 6, none⟩ (.slice ra l.length rc) = w7 at *
              obtain ⟨-, -, -, -, -, -, -, c7, -, -, f7⟩ := head_cells HM7.out
              have HM8 := Lib.hid (head_seven (.string ⟨(D.drop m).toArray⟩) HM7.out)
              have H8 := Lib.hid (show w.grownBy (w7.setCell ⟨H, 7, none⟩ (.string ⟨(D.drop m).toArray⟩)) none ∧ Bx (w7.setCell ⟨H, 7, none⟩ (.string ⟨(D.drop m).toArray⟩)) C0 26 #[.int .i64 0, .int .i64 0, .int .i64 0, .int .i64 0, .int .i64 0, .int .i64 0, .slice none 0 0, .string ⟨#[]⟩] ∧ RgFr w5.heap.size (w7.setCell ⟨H, 7, none⟩ (.string ⟨(D.drop m).toArray⟩)) ra l from ⟨gS H7.out.1 (by have := HC0.out; omega) _ _, H7.out.2.1.other (by omega) _ _, rg_cell8 H7.out.2.2 HLT.out⟩)
              go_upto_region 10 with fail
              try simp only [HEY.out]
              clear c7 f7 HM7 H7
              generalize w7.setCell ⟨H, 7, none⟩ (.string ⟨(D.drop m).toArray⟩) = w8 at *
              obtain ⟨c0, c1, c2, c3, c4, c5, c6, c7, -, -, -⟩ := head_cells HM8.out
              go_wp2_with fail
              refine (tcp_ok_impl (fF s) (fO s) (fS s) (fK s) (fG s) (fN s) ra rc l (D.drop m) w8 H8.out.2.2.1).mono ?_
              rintro e w9 ⟨rfl, hg⟩
              have H9 := Lib.hid (And.intro (grownBy_trans H8.out.1 hg) (And.intro (H8.out.2.1.keep hg) (H8.out.2.2.kept hg)))
              have HM9 := Lib.hid (HM8.out.kept hg)
              clear hg H8 HM8 c0 c1 c2 c3 c4 c5 c6 c7
              have hrd : rdG (fG s) s l ↔ tcpOk (fF s) (fO s) (fS s) (fK s) (fG s) (fN s) l (D.drop m) := by unfold rdG; rw [HDR.out]
              by_cases hok : tcpOk (fF s) (fO s) (fS s) (fK s) (fG s) (fN s) l (D.drop m)
              · rw [decide_eq_true hok]
                have HY := Lib.hid (rd_yes HHD.out HRD.out (hrd.mpr hok))
                clear hok hrd
                obtain ⟨c0, c1, c2, c3, c4, c5, c6, c7, -, -, -⟩ := head_cells HM9.out
                go_wp2_with (refine wpList_store_row rfl 26 _ _ rfl C0 #[.int .i64 (fF s), .int .i64 (fO s), .int .i64 (fS s), .int .i64 (fK s), .int .i64 (fG s), .int .i64 (fN s), .slice ra l.length rc, .string ⟨(D.drop m).toArray⟩] rfl rfl 26 _ H9.out.2.1 info_t rfl (by simp [Value.oneCell']) ?_)
                refine bodyPost_ret (v := .tuple #[tcpV (fF s) (fO s) (fS s) (fK s) (fG s) (fN s) ra rc l (D.drop m), .bool true]) (results_world Try.results8 _ _ C0 26 #[.int .i64 (fF s), .int .i64 (fO s), .int .i64 (fS s), .int .i64 (fK s), .int .i64 (fG s), .int .i64 (fN s), .slice ra l.length rc, .string ⟨(D.drop m).toArray⟩] (0, 0) _ _ rfl rfl (setRow_heap w9 C0 _ _ 26 (0, 0) H9.out.2.1) Try.underlying26 rfl info_t) rfl ?_
                rw [HY.out]
                exact ⟨ra, rc, by rw [HDR.out], rg_row8 H9.out.2.2 (Nat.lt_trans hlt HLT.out) _, row_grown8 H9.out.1 (Nat.le_of_eq HC0.out.symm) _⟩
              · rw [decide_eq_false hok]
                have HN := Lib.hid (rd_bad (a := a) (b := b) HRD.out (fun h => hok (hrd.mp h)))
                clear hok hrd
                go_wp2_with (refine wpList_store_row rfl 26 _ _ rfl C0 #[.int .i64 0, .int .i64 0, .int .i64 0, .int .i64 0, .int .i64 0, .int .i64 0, .slice none 0 0, .string ⟨#[]⟩] rfl rfl 26 _ H9.out.2.1 info_t rfl (by simp [Value.oneCell']) ?_)
                refine bodyPost_ret (v := .tuple #[zeroT, .bool false]) (results_world Try.results8 _ _ C0 26 #[.int .i64 0, .int .i64 0, .int .i64 0, .int .i64 0, .int .i64 0, .int .i64 0, .slice none 0 0, .string ⟨#[]⟩] (0, 0) _ _ rfl rfl (setRow_heap w9 C0 _ _ 26 (0, 0) H9.out.2.1) Try.underlying26 rfl info_t) rfl ?_
                rw [HN.out]
                exact ⟨rfl, row_grown8 H9.out.1 (Nat.le_of_eq HC0.out.symm) _⟩
          · have o1 : ¬ ov < 0 := by have := HOK.out; omega
            have o2 : (D.length : Int) < ov := by have := HOK.out; have := HDL.out; omega
            have HN := Lib.hid (rd_no (a := a) (b := b) (g := fG s) (s := s) (fun h => by have := h.2.2.2.2; rw [HKL.out] at this; omega))
            clear hks hk20
            go_wp2_with (refine wpList_store_row rfl 26 _ _ rfl C0 #[.int .i64 0, .int .i64 0, .int .i64 0, .int .i64 0, .int .i64 0, .int .i64 0, .slice none 0 0, .string ⟨#[]⟩] rfl rfl 26 _ H5.out.2 info_t rfl (by simp [Value.oneCell']) ?_)
            refine bodyPost_ret (v := .tuple #[zeroT, .bool false]) (results_world Try.results8 _ _ C0 26 #[.int .i64 0, .int .i64 0, .int .i64 0, .int .i64 0, .int .i64 0, .int .i64 0, .slice none 0 0, .string ⟨#[]⟩] (0, 0) _ _ rfl rfl (setRow_heap w5 C0 _ _ 26 (0, 0) H5.out.2) Try.underlying26 rfl info_t) rfl ?_
            rw [HN.out]
            exact ⟨rfl, row_grown8 H5.out.1 (Nat.le_of_eq HC0.out.symm) _⟩
      · rw [if_neg h20] at HS
        have HN := Lib.hid (rd_no (a := a) (b := b) (g := fG s) (s := s) (fun h => h20 h.2.2.1))
        clear h20
        refine (get_not8 H pb pc s w2 w3 w4 _ _ _ _ _ _ _ _ _ _ HS.out (by omega) HF.out HP.out.1 HP.out.2.1 HP.out.2.2).mono ?_
        rintro e w5 ⟨rfl, hm, x, c8, x0, x1⟩
        have H5 := Lib.hid (And.intro (grownBy_trans H2.out.1 hm) (H2.out.2.keep hm))
        clear hm HP HF HS
        go_wp2_with (refine wpList_store_row rfl 26 _ _ rfl C0 #[.int .i64 0, .int .i64 0, .int .i64 0, .int .i64 0, .int .i64 0, .int .i64 0, .slice none 0 0, .string ⟨#[]⟩] rfl rfl 26 _ H5.out.2 info_t rfl (by simp [Value.oneCell']) ?_)
        refine bodyPost_ret (v := .tuple #[zeroT, .bool false]) (results_world Try.results8 _ _ C0 26 #[.int .i64 0, .int .i64 0, .int .i64 0, .int .i64 0, .int .i64 0, .int .i64 0, .slice none 0 0, .string ⟨#[]⟩] (0, 0) _ _ rfl rfl (setRow_heap w5 C0 _ _ 26 (0, 0) H5.out.2) Try.underlying26 rfl info_t) rfl ?_
        rw [HN.out]
        exact ⟨rfl, row_grown8 H5.out.1 (Nat.le_of_eq HC0.out.symm) _⟩
    · have hzb : (z != 0) = true := by simpa using hz0
      have HN := Lib.hid (rd_no (a := a) (b := b) (g := fG s) (s := s) (fun h => hz0 (hz ▸ h.2.1)))
      clear hz hz0
      go_wp2_with (refine wpList_store_row rfl 26 _ _ rfl C0 #[.int .i64 0, .int .i64 0, .int .i64 0, .int .i64 0, .int .i64 0, .int .i64 0, .slice none 0 0, .string ⟨#[]⟩] rfl rfl 26 _ H2.out.2 info_t rfl (by simp [Value.oneCell']) ?_)
      refine bodyPost_ret (v := .tuple #[zeroT, .bool false]) (results_world Try.results8 _ _ C0 26 #[.int .i64 0, .int .i64 0, .int .i64 0, .int .i64 0, .int .i64 0, .int .i64 0, .slice none 0 0, .string ⟨#[]⟩] (0, 0) _ _ rfl rfl (setRow_heap w2 C0 _ _ 26 (0, 0) H2.out.2) Try.underlying26 rfl info_t) rfl ?_
      rw [HN.out]
      exact ⟨rfl, row_grown8 H2.out.1 (Nat.le_of_eq HC0.out.symm) _⟩
  · have h3 : (300 : Int) < (s.length : Int) := by omega
    have HN := Lib.hid (rd_no (a := a) (b := b) (g := fG s) (s := s) (fun h => h300 h.1))
    clear h300
    go_wp2_with (first | (go_at_call 18; refine (goes_any _ _).mono ?_; rintro e w' ⟨rfl, rfl⟩; first | rw [HG.out.1] | rw [HG.out.2]) | (refine wpList_store_row rfl 26 _ _ rfl C0 #[.int .i64 0, .int .i64 0, .int .i64 0, .int .i64 0, .int .i64 0, .int .i64 0, .slice none 0 0, .string ⟨#[]⟩] rfl rfl 26 _ HB.out.2 info_t rfl (by simp [Value.oneCell']) ?_))
    refine bodyPost_ret (v := .tuple #[zeroT, .bool false]) (results_world Try.results8 _ _ C0 26 #[.int .i64 0, .int .i64 0, .int .i64 0, .int .i64 0, .int .i64 0, .int .i64 0, .slice none 0 0, .string ⟨#[]⟩] (0, 0) _ _ rfl rfl (setRow_heap w1 C0 _ _ 26 (0, 0) HB.out.2) Try.underlying26 rfl info_t) rfl ?_
    rw [HN.out]
    exact ⟨rfl, row_grown8 HB.out.1 (Nat.le_of_eq HC0.out.symm) _⟩

end Go.Proofs.Ythfhffcimjolgaa
