/- The document's Tell. -/
import Derived.Test.YtnbgbfbiieimgaaRH
import Derived.Test.YtnbgbfbiieimgaaRI
import Derived.Test.YtnbgbfbiieimgaaRJ
import Derived.Test.YtnbgbfbiieimgaaRK
import Derived.Test.YtnbgbfbiieimgaaRQ
import Derived.Deep.CutBlock
namespace Go.Proofs.Ytnbgbfbiieimgaa.NumK
open Go.RowKit
set_option linter.unusedVariables false

theorem OwnE.at0Inx {w : World} {base : Nat} {t : TypeId} {A : Option Addr} {n c : Nat} {l : List In} (h : OwnE enIn w base t (.slice A n c) l) {j : Nat} (hj : j < l.length) :
    ∃ g, A = some ⟨g, 0, none⟩ ∧ base ≤ g ∧ g < w.heap.size ∧ (∀ k, w.frozen? ⟨g, k, none⟩ = false) ∧ CIn w g (j * 12) (l.getD j in0) := by
  obtain ⟨g, e, h1, h2, h3, h4⟩ := h.at0 (by omega)
  refine ⟨g, e, h1, h2, h3, ?_⟩
  rw [getD_at l in0 j hj]
  exact ⟨h4 j hj 0 (by decide), h4 j hj 1 (by decide), h4 j hj 2 (by decide), h4 j hj 3 (by decide), h4 j hj 4 (by decide), h4 j hj 5 (by decide), h4 j hj 6 (by decide), h4 j hj 7 (by decide), h4 j hj 8 (by decide), h4 j hj 9 (by decide), h4 j hj 10 (by decide), h4 j hj 11 (by decide)⟩
theorem tellP_found {r : Rl} {no price : Int} (h : rightR r = true) (j : Nat) (hj : j < r.2.1.length) (h0 : ∀ i, i < j → noIn (r.2.1.getD i in0) ≠ no) (h1 : noIn (r.2.1.getD j in0) = no) :
    tellP r no price = if wi price 1 1073741824 = true then ((r.1, (r.2.1.set j (setIn (r.2.1.getD j in0) price)), r.2.2), 0) else (rl0, 3) := by
  obtain ⟨a, b⟩ := find_yes noIn in0 r.2.1 no j hj h0 h1
  unfold tellP
  rw [if_pos h, if_pos a, b, put_set (d := in0) (right_rise h).2.1 (setIn (r.2.1.getD j in0) price) j hj rfl]
theorem tellP_none {r : Rl} {no price : Int} (h : rightR r = true) (h0 : ∀ i, i < r.2.1.length → noIn (r.2.1.getD i in0) ≠ no) : tellP r no price = (rl0, 10) := by
  obtain ⟨a, b⟩ := find_no noIn in0 r.2.1 no h0
  unfold tellP
  rw [if_pos h, a]; rfl

set_option maxRecDepth 100000 in
set_option maxHeartbeats 4000000 in
theorem rtell_any (r : Rl) (no price : Int) (A1 A2 A3 : Option Addr) (n1 n2 n3 c1 c2 c3 : Nat) (w : World) (h : In3 w r A1 A2 A3 n1 n2 n3 c1 c2 c3) (hn : n1 ≤ 1000000 ∧ n2 ≤ 1000000 ∧ n3 ≤ 1000000) :
    Calls Try.prog 38 #[rlV A1 A2 A3 n1 n2 n3 c1 c2 c3, .int .i64 no, .int .i64 price] w (RollE (tellP r no price).1 (tellP r no price).2 w) := by
  have HI := Lib.hid h
  have CK := fun w' (g : Grew w w') => rroll_any r A1 A2 A3 n1 n2 n3 c1 c2 c3 w' (h.rows.keep g) hn
  dsimp only [rlV] at CK ⊢
  have CW := fun w => rwithin_any price 1 1073741824 w
  have CT := fun w' (g : Grew w w') => twinRoll_any r A1 A2 A3 n1 n2 n3 c1 c2 c3 w' (h.keep g) hn
  dsimp only [rlV] at CT
  have HLQ := Lib.hid h.rows.i.len
  have HSHO : Hid (rightR r = true → n1 ≤ 16 ∧ n2 ≤ 8 ∧ n3 ≤ 6) := fun e => (by have := right_short e; rw [h.rows.m.len, h.rows.i.len, h.rows.h.len] at this; exact this)
  have HSL : Hid (r.1.length = n1 ∧ r.2.1.length = n2 ∧ r.2.2.length = n3) := ⟨h.rows.m.len, h.rows.i.len, h.rows.h.len⟩
  clear h
  by_cases hr : rightR r = true
  · have HFO := Lib.hid (fun j hj h0 h1 => tellP_found (r := r) (no := no) (price := price) hr j hj h0 h1)
    have HNO := Lib.hid (tellP_none (r := r) (no := no) (price := price) hr)
    rw [hr] at CK
    generalize tellP r no price = P at *
    generalize wi price 1 1073741824 = WW at *
    go_enter Try.func38, Try.ntmps38
    go_upto_region 1 with fail
    have HGI : Hid (Grew w ((w.alloc (.cells #[.slice A1 n1 c1, .slice A2 n2 c2, .slice A3 n3 c3] 26)).alloc (.cells #[.slice none 0 0, .slice none 0 0, .slice none 0 0] 26))) := grew_trans (grew_alloc _ _ _) (grew_alloc _ _ _)
    have HX0 : Hid (OwnC ((w.alloc (.cells #[.slice A1 n1 c1, .slice A2 n2 c2, .slice A3 n3 c3] 26)).alloc (.cells #[.slice none 0 0, .slice none 0 0, .slice none 0 0] 26)) w.heap.size [.slice A1 n1 c1, .slice A2 n2 c2, .slice A3 n3 c3]) := (OwnC.new w [.slice A1 n1 c1, .slice A2 n2 c2, .slice A3 n3 c3] _ _ rfl).keep (grew_alloc _ _ _)
    have HY0 : Hid (OwnC ((w.alloc (.cells #[.slice A1 n1 c1, .slice A2 n2 c2, .slice A3 n3 c3] 26)).alloc (.cells #[.slice none 0 0, .slice none 0 0, .slice none 0 0] 26)) (w.heap.size + 1) [.slice none 0 0, .slice none 0 0, .slice none 0 0]) := OwnC.new _ [.slice none 0 0, .slice none 0 0, .slice none 0 0] _ _ (by simp)
    generalize ((w.alloc (.cells #[.slice A1 n1 c1, .slice A2 n2 c2, .slice A3 n3 c3] 26)).alloc (.cells #[.slice none 0 0, .slice none 0 0, .slice none 0 0] 26)) = w0 at *
    have x0 : w0.cell? ⟨w.heap.size, 0, none⟩ = some (.slice A1 n1 c1) := HX0.out.at 0 _ rfl
    have x1 : w0.cell? ⟨w.heap.size, 1, none⟩ = some (.slice A2 n2 c2) := HX0.out.at 1 _ rfl
    have x2 : w0.cell? ⟨w.heap.size, 2, none⟩ = some (.slice A3 n3 c3) := HX0.out.at 2 _ rfl
    go_wp2_with (first
      | (go_at_call 12; ((with_reducible refine (CK _ HGI.out).mono ?_); rintro e w1 ⟨rfl, hg⟩; have HX1 := Lib.hid (HX0.out.keep hg); have HY1 := Lib.hid (HY0.out.keep hg); have HG1 := Lib.hid (grew_trans HGI.out hg); have x0 : w1.cell? ⟨w.heap.size, 0, none⟩ = some (.slice A1 n1 c1) := HX1.out.at 0 _ rfl; have x1 : w1.cell? ⟨w.heap.size, 1, none⟩ = some (.slice A2 n2 c2) := HX1.out.at 1 _ rfl; have x2 : w1.cell? ⟨w.heap.size, 2, none⟩ = some (.slice A3 n3 c3) := HX1.out.at 2 _ rfl; clear hg CK))
      | (go_at_call 10; ((with_reducible refine (CT _ HG1.out).mono ?_); rintro e w2 ⟨B1, B2, B3, d1, d2, d3, rfl, ⟨ho, ha12, ha13, ha23⟩, hg⟩; dsimp only [rlV]; have HO2 := Lib.hid ho; have HA12 := Lib.hid ha12; have HA13 := Lib.hid ha13; have HA23 := Lib.hid ha23; have HY2 := Lib.hid (HY1.out.keep hg); have HG2 := Lib.hid (grew_trans HG1.out hg); have HM2 : Hid (w.heap.size + 2 ≤ w1.heap.size + 2) := (by have := HG1.out.size; show _ ≤ _; omega); clear ho hg ha12 ha13 ha23 CT)))
    have HO3 := Lib.hid (HO2.out.keep (grew_alloc w2 #[.slice B1 r.1.length d1, .slice B2 r.2.1.length d2, .slice B3 r.2.2.length d3] 26))
    have HY3 := Lib.hid (HY2.out.keep (grew_alloc w2 #[.slice B1 r.1.length d1, .slice B2 r.2.1.length d2, .slice B3 r.2.2.length d3] 26))
    have HG3 : Hid (Grew w (w2.alloc (.cells #[.slice B1 r.1.length d1, .slice B2 r.2.1.length d2, .slice B3 r.2.2.length d3] 26))) := grew_trans HG2.out (grew_alloc _ _ _)
    have HZ3 : Hid (OwnC (w2.alloc (.cells #[.slice B1 r.1.length d1, .slice B2 r.2.1.length d2, .slice B3 r.2.2.length d3] 26)) w2.heap.size [.slice B1 r.1.length d1, .slice B2 r.2.1.length d2, .slice B3 r.2.2.length d3]) := OwnC.new w2 [.slice B1 r.1.length d1, .slice B2 r.2.1.length d2, .slice B3 r.2.2.length d3] _ _ rfl
    have HB3 : Hid (∀ x, B2 = some x → w.heap.size + 2 ≤ x.block ∧ x.block < w2.heap.size) := fun x hx => (by have := HO2.out.i.block x hx; have := HM2.out; omega)
    clear x0 x1 x2
    generalize (w2.alloc (.cells #[.slice B1 r.1.length d1, .slice B2 r.2.1.length d2, .slice B3 r.2.2.length d3] 26)) = w3 at *
    have z1 : w3.cell? ⟨w2.heap.size, 1, none⟩ = some (.slice B2 r.2.1.length d2) := HZ3.out.at 1 _ rfl
    go_loop [9] (fun v => ∃ j : Nat, v = .int .i64 j ∧ j ≤ r.2.1.length ∧ Hid (∀ i, i < j → noIn (r.2.1.getD i in0) ≠ no)) (fun v => r.2.1.length - (intOf v).toNat)
    case atStart => exact ⟨0, rfl, by omega, by intro i hi; omega⟩
    case round =>
      obtain ⟨j, rfl, hj, HKK⟩ := hrel
      by_cases hjl : j < r.2.1.length
      · obtain ⟨g, rfl, hg1, hg2, hfr, hc⟩ := HO3.out.i.at0Inx hjl
        obtain ⟨a0, a1, a2, a3, a4, a5, a6, a7, a8, a9, a10, a11⟩ := hc
        have HF1 := Lib.hid (HFO.out j hjl HKK.out)
        have HK1 : Hid (noIn (r.2.1.getD j in0) ≠ no → ∀ i, i < j + 1 → noIn (r.2.1.getD i in0) ≠ no) := fun h i hi => by
          rcases Nat.lt_or_ge i j with h1 | h1
          · exact HKK.out i h1
          · obtain rfl : i = j := by omega
            exact h
        have HNg : Hid (g ≠ w2.heap.size) := by have := (HB3.out _ rfl).2; show g ≠ _; intro e; rw [e] at this; exact absurd this (Nat.lt_irrefl _)
        have HNg2 : Hid (w.heap.size + 2 ≤ g) := (HB3.out _ rfl).1
        have hlen : r.2.1.length ≤ 1000000 := by have := HLQ.out; omega
        have i0 : (0 : Int) ≤ (j : Int) := by omega
        have i1 : (j : Int) < (r.2.1.length : Int) := by omega
        have i2 : (0 : Int) ≤ (r.2.1.length : Int) := by omega
        have hf := hfr (j * 12 + 4)
        have b4 := a4
        clear hfr
        have HO40 : Hid (OwnE enMb (w3.setCell ⟨g, j * 12 + 4, none⟩ (.int .i64 price)) (w.heap.size + 2) 33 (.slice B1 r.1.length d1) r.1) := (HO3.out.m.otherB g (j * 12 + 4) (.int .i64 price) (fun x hx => HA12.out x ⟨g, 0, none⟩ hx rfl)).mono HM2.out
        have HO41 : Hid (OwnE enIn (w3.setCell ⟨g, j * 12 + 4, none⟩ (.int .i64 price)) (w.heap.size + 2) 38 (.slice (some ⟨g, 0, none⟩) r.2.1.length d2) (r.2.1.set j (setIn (r.2.1.getD j in0) price))) := (HO3.out.i.put1 rfl j 4 (.int .i64 price) (setIn (r.2.1.getD j in0) price) hjl (by decide) (by rw [getD_at _ _ _ hjl]; rfl)).mono HM2.out
        have HO42 : Hid (OwnE enAs (w3.setCell ⟨g, j * 12 + 4, none⟩ (.int .i64 price)) (w.heap.size + 2) 42 (.slice B3 r.2.2.length d3) r.2.2) := (HO3.out.h.otherB g (j * 12 + 4) (.int .i64 price) (fun x hx => fun e => HA23.out ⟨g, 0, none⟩ x rfl hx e.symm)).mono HM2.out
        have HY4 : Hid (OwnC (w3.setCell ⟨g, j * 12 + 4, none⟩ (.int .i64 price)) (w.heap.size + 1) [.slice none 0 0, .slice none 0 0, .slice none 0 0]) := HY3.out.other _ _ (by have := HNg2.out; show g ≠ _; omega)
        have HZ4 : Hid (OwnC (w3.setCell ⟨g, j * 12 + 4, none⟩ (.int .i64 price)) w2.heap.size [.slice B1 r.1.length d1, .slice (some ⟨g, 0, none⟩) r.2.1.length d2, .slice B3 r.2.2.length d3]) := HZ3.out.other _ _ HNg.out
        have HG4 : Hid (Grew w (w3.setCell ⟨g, j * 12 + 4, none⟩ (.int .i64 price))) := grew_set HG3.out _ (by have := HNg2.out; show _ ≤ g; omega)
        have HNX : Hid (noIn (r.2.1.getD j in0) = (r.2.1.getD j in0).1.1) := rfl
        rw [HNX.out] at HF1 HK1
        have HPV : Hid ((r.2.1.getD j in0).1.1 = no → P = if WW = true then ((r.1, (r.2.1.set j (setIn (r.2.1.getD j in0) price)), r.2.2), 0) else (rl0, 3)) := HF1.out
        clear HF1 HNX
        generalize hx : (r.2.1.getD j in0).1.1 = nx at *
        clear hx
        by_cases he : nx = no
        · have HPW := Lib.hid (HPV.out he)
          subst he
          cases WW
          · have HPX : Hid (P = (rl0, 3)) := HPW.out
            clear HK1 HPV HPW
            have y0 : w3.cell? ⟨w.heap.size + 1, 0, none⟩ = some (.slice none 0 0) := HY3.out.at 0 _ rfl
            have f0 : w3.frozen? ⟨w.heap.size + 1, 0, none⟩ = false := HY3.out.fr 0 (by decide)
            have y1 : w3.cell? ⟨w.heap.size + 1, 1, none⟩ = some (.slice none 0 0) := HY3.out.at 1 _ rfl
            have f1 : w3.frozen? ⟨w.heap.size + 1, 1, none⟩ = false := HY3.out.fr 1 (by decide)
            have y2 : w3.cell? ⟨w.heap.size + 1, 2, none⟩ = some (.slice none 0 0) := HY3.out.at 2 _ rfl
            have f2 : w3.frozen? ⟨w.heap.size + 1, 2, none⟩ = false := HY3.out.fr 2 (by decide)
            go_wp2_with (go_at_call 65; ((with_reducible refine (CW _).mono ?_); rintro e w5 ⟨rfl, rfl⟩))
            have HP := HY3.out.all [.slice none 0 0, .slice none 0 0, .slice none 0 0] rfl
            have HGP := grew_put (w.heap.size + 1) (by show w.heap.size ≤ _; omega) [.slice none 0 0, .slice none 0 0, .slice none 0 0] 0 _ HG3.out
            change bodyPost _ _ _ _ _ (putC w3 (w.heap.size + 1) 0 [.slice none 0 0, .slice none 0 0, .slice none 0 0])
            generalize putC w3 (w.heap.size + 1) 0 [.slice none 0 0, .slice none 0 0, .slice none 0 0] = w9 at *
            have z0 : w9.cell? ⟨w.heap.size + 1, 0, none⟩ = _ := HP.at 0 _ rfl
            have z1 : w9.cell? ⟨w.heap.size + 1, 1, none⟩ = _ := HP.at 1 _ rfl
            have z2 : w9.cell? ⟨w.heap.size + 1, 2, none⟩ = _ := HP.at 2 _ rfl
            refine bodyPost_ret (v := .tuple #[.agg #[.slice none 0 0, .slice none 0 0, .slice none 0 0], .int .i64 3]) (by simp [results, Try.results38, go_sem, z0, z1, z2]) rfl ?_
            rw [HPX.out]
            exact ⟨none, none, none, 0, 0, 0, rfl, own3_nil _ _, HGP⟩
          · have HPX : Hid (P = ((r.1, (r.2.1.set j (setIn (r.2.1.getD j in0) price)), r.2.2), 0)) := HPW.out
            clear HK1 HPV HPW
            go_upto_region 11 with (go_at_call 65; ((with_reducible refine (CW _).mono ?_); rintro e w5 ⟨rfl, rfl⟩))
            clear a0 a1 a2 a3 a4 a5 a6 a7 a8 a9 a10 a11 b4 hf z1 x0 x1 x2
            generalize (w3.setCell ⟨g, j * 12 + 4, none⟩ (.int .i64 price)) = w4 at *
            have z0 : w4.cell? ⟨w2.heap.size, 0, none⟩ = _ := HZ4.out.at 0 _ rfl
            have z1 : w4.cell? ⟨w2.heap.size, 1, none⟩ = _ := HZ4.out.at 1 _ rfl
            have z2 : w4.cell? ⟨w2.heap.size, 2, none⟩ = _ := HZ4.out.at 2 _ rfl
            have y0 : w4.cell? ⟨w.heap.size + 1, 0, none⟩ = some (.slice none 0 0) := HY4.out.at 0 _ rfl
            have f0 : w4.frozen? ⟨w.heap.size + 1, 0, none⟩ = false := HY4.out.fr 0 (by decide)
            have y1 : w4.cell? ⟨w.heap.size + 1, 1, none⟩ = some (.slice none 0 0) := HY4.out.at 1 _ rfl
            have f1 : w4.frozen? ⟨w.heap.size + 1, 1, none⟩ = false := HY4.out.fr 1 (by decide)
            have y2 : w4.cell? ⟨w.heap.size + 1, 2, none⟩ = some (.slice none 0 0) := HY4.out.at 2 _ rfl
            have f2 : w4.frozen? ⟨w.heap.size + 1, 2, none⟩ = false := HY4.out.fr 2 (by decide)
            go_wp2
            have HP := HY4.out.all [Value.slice B1 r.1.length d1, .slice (some ⟨g, 0, none⟩) r.2.1.length d2, .slice B3 r.2.2.length d3] rfl
            have HGP := grew_put (w.heap.size + 1) (by show w.heap.size ≤ _; omega) [Value.slice B1 r.1.length d1, .slice (some ⟨g, 0, none⟩) r.2.1.length d2, .slice B3 r.2.2.length d3] 0 _ HG4.out
            have hb : w.heap.size + 1 < w.heap.size + 2 := by omega
            have Q0 := OwnE.put hb [Value.slice B1 r.1.length d1, .slice (some ⟨g, 0, none⟩) r.2.1.length d2, .slice B3 r.2.2.length d3] 0 _ HO40.out
            have Q1 := OwnE.put hb [Value.slice B1 r.1.length d1, .slice (some ⟨g, 0, none⟩) r.2.1.length d2, .slice B3 r.2.2.length d3] 0 _ HO41.out
            have Q2 := OwnE.put hb [Value.slice B1 r.1.length d1, .slice (some ⟨g, 0, none⟩) r.2.1.length d2, .slice B3 r.2.2.length d3] 0 _ HO42.out
            change bodyPost _ _ _ _ _ (putC w4 (w.heap.size + 1) 0 [.slice B1 r.1.length d1, .slice (some ⟨g, 0, none⟩) r.2.1.length d2, .slice B3 r.2.2.length d3])
            generalize putC w4 (w.heap.size + 1) 0 [.slice B1 r.1.length d1, .slice (some ⟨g, 0, none⟩) r.2.1.length d2, .slice B3 r.2.2.length d3] = w9 at *
            have z0 : w9.cell? ⟨w.heap.size + 1, 0, none⟩ = _ := HP.at 0 _ rfl
            have z1 : w9.cell? ⟨w.heap.size + 1, 1, none⟩ = _ := HP.at 1 _ rfl
            have z2 : w9.cell? ⟨w.heap.size + 1, 2, none⟩ = _ := HP.at 2 _ rfl
            refine bodyPost_ret (v := .tuple #[.agg #[.slice B1 r.1.length d1, .slice (some ⟨g, 0, none⟩) r.2.1.length d2, .slice B3 r.2.2.length d3], .int .i64 0]) (by simp [results, Try.results38, go_sem, z0, z1, z2]) rfl ?_
            rw [HPX.out]
            refine ⟨B1, some ⟨g, 0, none⟩, B3, d1, d2, d3, ?_, ⟨Q0.mono (by omega), ?_, Q2.mono (by omega)⟩, HGP⟩
            · (try dsimp only); rw [List.length_set]
            · (try dsimp only); rw [List.length_set]; exact Q1.mono (by omega)
        · have he2 : (nx == no) = false := by simpa using he
          have HK2 := Lib.hid (HK1.out he)
          clear HK1 HPV
          go_wp2
          go_round
          case rel => exact ⟨j + 1, by go_num, by omega, HK2.out⟩
          case measure => simp only [intOf]; omega
      · obtain rfl : j = r.2.1.length := by omega
        have HPV := Lib.hid (HNO.out HKK.out)
        have y0 : w3.cell? ⟨w.heap.size + 1, 0, none⟩ = some (.slice none 0 0) := HY3.out.at 0 _ rfl
        have f0 : w3.frozen? ⟨w.heap.size + 1, 0, none⟩ = false := HY3.out.fr 0 (by decide)
        have y1 : w3.cell? ⟨w.heap.size + 1, 1, none⟩ = some (.slice none 0 0) := HY3.out.at 1 _ rfl
        have f1 : w3.frozen? ⟨w.heap.size + 1, 1, none⟩ = false := HY3.out.fr 1 (by decide)
        have y2 : w3.cell? ⟨w.heap.size + 1, 2, none⟩ = some (.slice none 0 0) := HY3.out.at 2 _ rfl
        have f2 : w3.frozen? ⟨w.heap.size + 1, 2, none⟩ = false := HY3.out.fr 2 (by decide)
        go_wp2
        have HP := HY3.out.all [.slice none 0 0, .slice none 0 0, .slice none 0 0] rfl
        have HGP := grew_put (w.heap.size + 1) (by show w.heap.size ≤ _; omega) [.slice none 0 0, .slice none 0 0, .slice none 0 0] 0 _ HG3.out
        change bodyPost _ _ _ _ _ (putC w3 (w.heap.size + 1) 0 [.slice none 0 0, .slice none 0 0, .slice none 0 0])
        generalize putC w3 (w.heap.size + 1) 0 [.slice none 0 0, .slice none 0 0, .slice none 0 0] = w9 at *
        have z0 : w9.cell? ⟨w.heap.size + 1, 0, none⟩ = _ := HP.at 0 _ rfl
        have z1 : w9.cell? ⟨w.heap.size + 1, 1, none⟩ = _ := HP.at 1 _ rfl
        have z2 : w9.cell? ⟨w.heap.size + 1, 2, none⟩ = _ := HP.at 2 _ rfl
        refine bodyPost_ret (v := .tuple #[.agg #[.slice none 0 0, .slice none 0 0, .slice none 0 0], .int .i64 10]) (by simp [results, Try.results38, go_sem, z0, z1, z2]) rfl ?_
        rw [HPV.out]
        exact ⟨none, none, none, 0, 0, 0, rfl, own3_nil _ _, HGP⟩
  · rw [Bool.not_eq_true] at hr
    have hrf : ¬ rightR r = true := by rw [hr]; decide
    rw [show tellP r no price = (rl0, 14) by unfold tellP; rw [if_neg hrf]]
    rw [hr] at CK
    go_enter Try.func38, Try.ntmps38
    go_upto_region 1 with fail
    have HGI : Hid (Grew w ((w.alloc (.cells #[.slice A1 n1 c1, .slice A2 n2 c2, .slice A3 n3 c3] 26)).alloc (.cells #[.slice none 0 0, .slice none 0 0, .slice none 0 0] 26))) := grew_trans (grew_alloc _ _ _) (grew_alloc _ _ _)
    have HX0 : Hid (OwnC ((w.alloc (.cells #[.slice A1 n1 c1, .slice A2 n2 c2, .slice A3 n3 c3] 26)).alloc (.cells #[.slice none 0 0, .slice none 0 0, .slice none 0 0] 26)) w.heap.size [.slice A1 n1 c1, .slice A2 n2 c2, .slice A3 n3 c3]) := (OwnC.new w [.slice A1 n1 c1, .slice A2 n2 c2, .slice A3 n3 c3] _ _ rfl).keep (grew_alloc _ _ _)
    have HY0 : Hid (OwnC ((w.alloc (.cells #[.slice A1 n1 c1, .slice A2 n2 c2, .slice A3 n3 c3] 26)).alloc (.cells #[.slice none 0 0, .slice none 0 0, .slice none 0 0] 26)) (w.heap.size + 1) [.slice none 0 0, .slice none 0 0, .slice none 0 0]) := OwnC.new _ [.slice none 0 0, .slice none 0 0, .slice none 0 0] _ _ (by simp)
    generalize ((w.alloc (.cells #[.slice A1 n1 c1, .slice A2 n2 c2, .slice A3 n3 c3] 26)).alloc (.cells #[.slice none 0 0, .slice none 0 0, .slice none 0 0] 26)) = w0 at *
    have x0 : w0.cell? ⟨w.heap.size, 0, none⟩ = some (.slice A1 n1 c1) := HX0.out.at 0 _ rfl
    have x1 : w0.cell? ⟨w.heap.size, 1, none⟩ = some (.slice A2 n2 c2) := HX0.out.at 1 _ rfl
    have x2 : w0.cell? ⟨w.heap.size, 2, none⟩ = some (.slice A3 n3 c3) := HX0.out.at 2 _ rfl
    go_wp2_with (go_at_call 12; ((with_reducible refine (CK _ HGI.out).mono ?_); rintro e w1 ⟨rfl, hg⟩; have HX1 := Lib.hid (HX0.out.keep hg); have HY1 := Lib.hid (HY0.out.keep hg); have HG1 := Lib.hid (grew_trans HGI.out hg); have y0 : w1.cell? ⟨w.heap.size + 1, 0, none⟩ = some (.slice none 0 0) := HY1.out.at 0 _ rfl; have f0 : w1.frozen? ⟨w.heap.size + 1, 0, none⟩ = false := HY1.out.fr 0 (by decide); have y1 : w1.cell? ⟨w.heap.size + 1, 1, none⟩ = some (.slice none 0 0) := HY1.out.at 1 _ rfl; have f1 : w1.frozen? ⟨w.heap.size + 1, 1, none⟩ = false := HY1.out.fr 1 (by decide); have y2 : w1.cell? ⟨w.heap.size + 1, 2, none⟩ = some (.slice none 0 0) := HY1.out.at 2 _ rfl; have f2 : w1.frozen? ⟨w.heap.size + 1, 2, none⟩ = false := HY1.out.fr 2 (by decide); clear hg CK))
    have HP := HY1.out.all [.slice none 0 0, .slice none 0 0, .slice none 0 0] rfl
    have HGP := grew_put (w.heap.size + 1) (by show w.heap.size ≤ _; omega) [.slice none 0 0, .slice none 0 0, .slice none 0 0] 0 _ HG1.out
    change bodyPost _ _ _ _ _ (putC w1 (w.heap.size + 1) 0 [.slice none 0 0, .slice none 0 0, .slice none 0 0])
    generalize putC w1 (w.heap.size + 1) 0 [.slice none 0 0, .slice none 0 0, .slice none 0 0] = w9 at *
    have z0 : w9.cell? ⟨w.heap.size + 1, 0, none⟩ = _ := HP.at 0 _ rfl
    have z1 : w9.cell? ⟨w.heap.size + 1, 1, none⟩ = _ := HP.at 1 _ rfl
    have z2 : w9.cell? ⟨w.heap.size + 1, 2, none⟩ = _ := HP.at 2 _ rfl
    refine bodyPost_ret (v := .tuple #[.agg #[.slice none 0 0, .slice none 0 0, .slice none 0 0], .int .i64 14]) (by simp [results, Try.results38, go_sem, z0, z1, z2]) rfl ?_
    exact ⟨none, none, none, 0, 0, 0, rfl, own3_nil _ _, HGP⟩
end Go.Proofs.Ytnbgbfbiieimgaa.NumK
namespace Go.Proofs.Ytnbgbfbiieimgaa.NumK
open Go.RowKit
set_option linter.unusedVariables false

theorem OwnE.at0Mbx {w : World} {base : Nat} {t : TypeId} {A : Option Addr} {n c : Nat} {l : List Mb} (h : OwnE enMb w base t (.slice A n c) l) {j : Nat} (hj : j < l.length) :
    ∃ g, A = some ⟨g, 0, none⟩ ∧ base ≤ g ∧ g < w.heap.size ∧ (∀ k, w.frozen? ⟨g, k, none⟩ = false) ∧ CMb w g (j * 3) (l.getD j mb0) := by
  obtain ⟨g, e, h1, h2, h3, h4⟩ := h.at0 (by omega)
  refine ⟨g, e, h1, h2, h3, ?_⟩
  rw [getD_at l mb0 j hj]
  exact ⟨h4 j hj 0 (by decide), h4 j hj 1 (by decide), h4 j hj 2 (by decide)⟩
theorem putP_found {r : Rl} {who state : Int} (h : rightR r = true) (j : Nat) (hj : j < r.1.length) (h0 : ∀ i, i < j → noMb (r.1.getD i mb0) ≠ who) (h1 : noMb (r.1.getD j mb0) = who) :
    putP r who state = if wi state 1 3 = true then (((r.1.set j (setMb (r.1.getD j mb0) state)), r.2.1, r.2.2), 0) else (rl0, 3) := by
  obtain ⟨a, b⟩ := find_yes noMb mb0 r.1 who j hj h0 h1
  unfold putP
  rw [if_pos h, if_pos a, b, put_set (d := mb0) (right_rise h).1 (setMb (r.1.getD j mb0) state) j hj rfl]
theorem putP_none {r : Rl} {who state : Int} (h : rightR r = true) (h0 : ∀ i, i < r.1.length → noMb (r.1.getD i mb0) ≠ who) : putP r who state = (rl0, 10) := by
  obtain ⟨a, b⟩ := find_no noMb mb0 r.1 who h0
  unfold putP
  rw [if_pos h, a]; rfl

set_option maxRecDepth 100000 in
set_option maxHeartbeats 4000000 in
theorem rput_any (r : Rl) (who state : Int) (A1 A2 A3 : Option Addr) (n1 n2 n3 c1 c2 c3 : Nat) (w : World) (h : In3 w r A1 A2 A3 n1 n2 n3 c1 c2 c3) (hn : n1 ≤ 1000000 ∧ n2 ≤ 1000000 ∧ n3 ≤ 1000000) :
    Calls Try.prog 40 #[rlV A1 A2 A3 n1 n2 n3 c1 c2 c3, .int .i64 who, .int .i64 state] w (RollE (putP r who state).1 (putP r who state).2 w) := by
  have HI := Lib.hid h
  have CK := fun w' (g : Grew w w') => rroll_any r A1 A2 A3 n1 n2 n3 c1 c2 c3 w' (h.rows.keep g) hn
  dsimp only [rlV] at CK ⊢
  have CW := fun w => rwithin_any state 1 3 w
  have CT := fun w' (g : Grew w w') => twinRoll_any r A1 A2 A3 n1 n2 n3 c1 c2 c3 w' (h.keep g) hn
  dsimp only [rlV] at CT
  have HLQ := Lib.hid h.rows.m.len
  have HSHO : Hid (rightR r = true → n1 ≤ 16 ∧ n2 ≤ 8 ∧ n3 ≤ 6) := fun e => (by have := right_short e; rw [h.rows.m.len, h.rows.i.len, h.rows.h.len] at this; exact this)
  have HSL : Hid (r.1.length = n1 ∧ r.2.1.length = n2 ∧ r.2.2.length = n3) := ⟨h.rows.m.len, h.rows.i.len, h.rows.h.len⟩
  clear h
  by_cases hr : rightR r = true
  · have HFO := Lib.hid (fun j hj h0 h1 => putP_found (r := r) (who := who) (state := state) hr j hj h0 h1)
    have HNO := Lib.hid (putP_none (r := r) (who := who) (state := state) hr)
    rw [hr] at CK
    generalize putP r who state = P at *
    generalize wi state 1 3 = WW at *
    go_enter Try.func40, Try.ntmps40
    go_upto_region 1 with fail
    have HGI : Hid (Grew w ((w.alloc (.cells #[.slice A1 n1 c1, .slice A2 n2 c2, .slice A3 n3 c3] 26)).alloc (.cells #[.slice none 0 0, .slice none 0 0, .slice none 0 0] 26))) := grew_trans (grew_alloc _ _ _) (grew_alloc _ _ _)
    have HX0 : Hid (OwnC ((w.alloc (.cells #[.slice A1 n1 c1, .slice A2 n2 c2, .slice A3 n3 c3] 26)).alloc (.cells #[.slice none 0 0, .slice none 0 0, .slice none 0 0] 26)) w.heap.size [.slice A1 n1 c1, .slice A2 n2 c2, .slice A3 n3 c3]) := (OwnC.new w [.slice A1 n1 c1, .slice A2 n2 c2, .slice A3 n3 c3] _ _ rfl).keep (grew_alloc _ _ _)
    have HY0 : Hid (OwnC ((w.alloc (.cells #[.slice A1 n1 c1, .slice A2 n2 c2, .slice A3 n3 c3] 26)).alloc (.cells #[.slice none 0 0, .slice none 0 0, .slice none 0 0] 26)) (w.heap.size + 1) [.slice none 0 0, .slice none 0 0, .slice none 0 0]) := OwnC.new _ [.slice none 0 0, .slice none 0 0, .slice none 0 0] _ _ (by simp)
    generalize ((w.alloc (.cells #[.slice A1 n1 c1, .slice A2 n2 c2, .slice A3 n3 c3] 26)).alloc (.cells #[.slice none 0 0, .slice none 0 0, .slice none 0 0] 26)) = w0 at *
    have x0 : w0.cell? ⟨w.heap.size, 0, none⟩ = some (.slice A1 n1 c1) := HX0.out.at 0 _ rfl
    have x1 : w0.cell? ⟨w.heap.size, 1, none⟩ = some (.slice A2 n2 c2) := HX0.out.at 1 _ rfl
    have x2 : w0.cell? ⟨w.heap.size, 2, none⟩ = some (.slice A3 n3 c3) := HX0.out.at 2 _ rfl
    go_wp2_with (first
      | (go_at_call 12; ((with_reducible refine (CK _ HGI.out).mono ?_); rintro e w1 ⟨rfl, hg⟩; have HX1 := Lib.hid (HX0.out.keep hg); have HY1 := Lib.hid (HY0.out.keep hg); have HG1 := Lib.hid (grew_trans HGI.out hg); have x0 : w1.cell? ⟨w.heap.size, 0, none⟩ = some (.slice A1 n1 c1) := HX1.out.at 0 _ rfl; have x1 : w1.cell? ⟨w.heap.size, 1, none⟩ = some (.slice A2 n2 c2) := HX1.out.at 1 _ rfl; have x2 : w1.cell? ⟨w.heap.size, 2, none⟩ = some (.slice A3 n3 c3) := HX1.out.at 2 _ rfl; clear hg CK))
      | (go_at_call 10; ((with_reducible refine (CT _ HG1.out).mono ?_); rintro e w2 ⟨B1, B2, B3, d1, d2, d3, rfl, ⟨ho, ha12, ha13, ha23⟩, hg⟩; dsimp only [rlV]; have HO2 := Lib.hid ho; have HA12 := Lib.hid ha12; have HA13 := Lib.hid ha13; have HA23 := Lib.hid ha23; have HY2 := Lib.hid (HY1.out.keep hg); have HG2 := Lib.hid (grew_trans HG1.out hg); have HM2 : Hid (w.heap.size + 2 ≤ w1.heap.size + 2) := (by have := HG1.out.size; show _ ≤ _; omega); clear ho hg ha12 ha13 ha23 CT)))
    have HO3 := Lib.hid (HO2.out.keep (grew_alloc w2 #[.slice B1 r.1.length d1, .slice B2 r.2.1.length d2, .slice B3 r.2.2.length d3] 26))
    have HY3 := Lib.hid (HY2.out.keep (grew_alloc w2 #[.slice B1 r.1.length d1, .slice B2 r.2.1.length d2, .slice B3 r.2.2.length d3] 26))
    have HG3 : Hid (Grew w (w2.alloc (.cells #[.slice B1 r.1.length d1, .slice B2 r.2.1.length d2, .slice B3 r.2.2.length d3] 26))) := grew_trans HG2.out (grew_alloc _ _ _)
    have HZ3 : Hid (OwnC (w2.alloc (.cells #[.slice B1 r.1.length d1, .slice B2 r.2.1.length d2, .slice B3 r.2.2.length d3] 26)) w2.heap.size [.slice B1 r.1.length d1, .slice B2 r.2.1.length d2, .slice B3 r.2.2.length d3]) := OwnC.new w2 [.slice B1 r.1.length d1, .slice B2 r.2.1.length d2, .slice B3 r.2.2.length d3] _ _ rfl
    have HB3 : Hid (∀ x, B1 = some x → w.heap.size + 2 ≤ x.block ∧ x.block < w2.heap.size) := fun x hx => (by have := HO2.out.m.block x hx; have := HM2.out; omega)
    clear x0 x1 x2
    generalize (w2.alloc (.cells #[.slice B1 r.1.length d1, .slice B2 r.2.1.length d2, .slice B3 r.2.2.length d3] 26)) = w3 at *
    have z0 : w3.cell? ⟨w2.heap.size, 0, none⟩ = some (.slice B1 r.1.length d1) := HZ3.out.at 0 _ rfl
    go_loop [9] (fun v => ∃ j : Nat, v = .int .i64 j ∧ j ≤ r.1.length ∧ Hid (∀ i, i < j → noMb (r.1.getD i mb0) ≠ who)) (fun v => r.1.length - (intOf v).toNat)
    case atStart => exact ⟨0, rfl, by omega, by intro i hi; omega⟩
    case round =>
      obtain ⟨j, rfl, hj, HKK⟩ := hrel
      by_cases hjl : j < r.1.length
      · obtain ⟨g, rfl, hg1, hg2, hfr, hc⟩ := HO3.out.m.at0Mbx hjl
        obtain ⟨a0, a1, a2⟩ := hc
        have HF1 := Lib.hid (HFO.out j hjl HKK.out)
        have HK1 : Hid (noMb (r.1.getD j mb0) ≠ who → ∀ i, i < j + 1 → noMb (r.1.getD i mb0) ≠ who) := fun h i hi => by
          rcases Nat.lt_or_ge i j with h1 | h1
          · exact HKK.out i h1
          · obtain rfl : i = j := by omega
            exact h
        have HNg : Hid (g ≠ w2.heap.size) := by have := (HB3.out _ rfl).2; show g ≠ _; intro e; rw [e] at this; exact absurd this (Nat.lt_irrefl _)
        have HNg2 : Hid (w.heap.size + 2 ≤ g) := (HB3.out _ rfl).1
        have hlen : r.1.length ≤ 1000000 := by have := HLQ.out; omega
        have i0 : (0 : Int) ≤ (j : Int) := by omega
        have i1 : (j : Int) < (r.1.length : Int) := by omega
        have i2 : (0 : Int) ≤ (r.1.length : Int) := by omega
        have hf := hfr (j * 3 + 1)
        have b1 := a1
        clear hfr
        have HO40 : Hid (OwnE enMb (w3.setCell ⟨g, j * 3 + 1, none⟩ (.int .i64 state)) (w.heap.size + 2) 33 (.slice (some ⟨g, 0, none⟩) r.1.length d1) (r.1.set j (setMb (r.1.getD j mb0) state))) := (HO3.out.m.put1 rfl j 1 (.int .i64 state) (setMb (r.1.getD j mb0) state) hjl (by decide) (by rw [getD_at _ _ _ hjl]; rfl)).mono HM2.out
        have HO41 : Hid (OwnE enIn (w3.setCell ⟨g, j * 3 + 1, none⟩ (.int .i64 state)) (w.heap.size + 2) 38 (.slice B2 r.2.1.length d2) r.2.1) := (HO3.out.i.otherB g (j * 3 + 1) (.int .i64 state) (fun x hx => fun e => HA12.out ⟨g, 0, none⟩ x rfl hx e.symm)).mono HM2.out
        have HO42 : Hid (OwnE enAs (w3.setCell ⟨g, j * 3 + 1, none⟩ (.int .i64 state)) (w.heap.size + 2) 42 (.slice B3 r.2.2.length d3) r.2.2) := (HO3.out.h.otherB g (j * 3 + 1) (.int .i64 state) (fun x hx => fun e => HA13.out ⟨g, 0, none⟩ x rfl hx e.symm)).mono HM2.out
        have HY4 : Hid (OwnC (w3.setCell ⟨g, j * 3 + 1, none⟩ (.int .i64 state)) (w.heap.size + 1) [.slice none 0 0, .slice none 0 0, .slice none 0 0]) := HY3.out.other _ _ (by have := HNg2.out; show g ≠ _; omega)
        have HZ4 : Hid (OwnC (w3.setCell ⟨g, j * 3 + 1, none⟩ (.int .i64 state)) w2.heap.size [.slice (some ⟨g, 0, none⟩) r.1.length d1, .slice B2 r.2.1.length d2, .slice B3 r.2.2.length d3]) := HZ3.out.other _ _ HNg.out
        have HG4 : Hid (Grew w (w3.setCell ⟨g, j * 3 + 1, none⟩ (.int .i64 state))) := grew_set HG3.out _ (by have := HNg2.out; show _ ≤ g; omega)
        have HNX : Hid (noMb (r.1.getD j mb0) = (r.1.getD j mb0).1) := rfl
        rw [HNX.out] at HF1 HK1
        have HPV : Hid ((r.1.getD j mb0).1 = who → P = if WW = true then (((r.1.set j (setMb (r.1.getD j mb0) state)), r.2.1, r.2.2), 0) else (rl0, 3)) := HF1.out
        clear HF1 HNX
        generalize hx : (r.1.getD j mb0).1 = nx at *
        clear hx
        by_cases he : nx = who
        · have HPW := Lib.hid (HPV.out he)
          subst he
          cases WW
          · have HPX : Hid (P = (rl0, 3)) := HPW.out
            clear HK1 HPV HPW
            have y0 : w3.cell? ⟨w.heap.size + 1, 0, none⟩ = some (.slice none 0 0) := HY3.out.at 0 _ rfl
            have f0 : w3.frozen? ⟨w.heap.size + 1, 0, none⟩ = false := HY3.out.fr 0 (by decide)
            have y1 : w3.cell? ⟨w.heap.size + 1, 1, none⟩ = some (.slice none 0 0) := HY3.out.at 1 _ rfl
            have f1 : w3.frozen? ⟨w.heap.size + 1, 1, none⟩ = false := HY3.out.fr 1 (by decide)
            have y2 : w3.cell? ⟨w.heap.size + 1, 2, none⟩ = some (.slice none 0 0) := HY3.out.at 2 _ rfl
            have f2 : w3.frozen? ⟨w.heap.size + 1, 2, none⟩ = false := HY3.out.fr 2 (by decide)
            go_wp2_with (go_at_call 65; ((with_reducible refine (CW _).mono ?_); rintro e w5 ⟨rfl, rfl⟩))
            have HP := HY3.out.all [.slice none 0 0, .slice none 0 0, .slice none 0 0] rfl
            have HGP := grew_put (w.heap.size + 1) (by show w.heap.size ≤ _; omega) [.slice none 0 0, .slice none 0 0, .slice none 0 0] 0 _ HG3.out
            change bodyPost _ _ _ _ _ (putC w3 (w.heap.size + 1) 0 [.slice none 0 0, .slice none 0 0, .slice none 0 0])
            generalize putC w3 (w.heap.size + 1) 0 [.slice none 0 0, .slice none 0 0, .slice none 0 0] = w9 at *
            have z0 : w9.cell? ⟨w.heap.size + 1, 0, none⟩ = _ := HP.at 0 _ rfl
            have z1 : w9.cell? ⟨w.heap.size + 1, 1, none⟩ = _ := HP.at 1 _ rfl
            have z2 : w9.cell? ⟨w.heap.size + 1, 2, none⟩ = _ := HP.at 2 _ rfl
            refine bodyPost_ret (v := .tuple #[.agg #[.slice none 0 0, .slice none 0 0, .slice none 0 0], .int .i64 3]) (by simp [results, Try.results40, go_sem, z0, z1, z2]) rfl ?_
            rw [HPX.out]
            exact ⟨none, none, none, 0, 0, 0, rfl, own3_nil _ _, HGP⟩
          · have HPX : Hid (P = (((r.1.set j (setMb (r.1.getD j mb0) state)), r.2.1, r.2.2), 0)) := HPW.out
            clear HK1 HPV HPW
            go_upto_region 11 with (go_at_call 65; ((with_reducible refine (CW _).mono ?_); rintro e w5 ⟨rfl, rfl⟩))
            clear a0 a1 a2 b1 hf z0 x0 x1 x2
            generalize (w3.setCell ⟨g, j * 3 + 1, none⟩ (.int .i64 state)) = w4 at *
            have z0 : w4.cell? ⟨w2.heap.size, 0, none⟩ = _ := HZ4.out.at 0 _ rfl
            have z1 : w4.cell? ⟨w2.heap.size, 1, none⟩ = _ := HZ4.out.at 1 _ rfl
            have z2 : w4.cell? ⟨w2.heap.size, 2, none⟩ = _ := HZ4.out.at 2 _ rfl
            have y0 : w4.cell? ⟨w.heap.size + 1, 0, none⟩ = some (.slice none 0 0) := HY4.out.at 0 _ rfl
            have f0 : w4.frozen? ⟨w.heap.size + 1, 0, none⟩ = false := HY4.out.fr 0 (by decide)
            have y1 : w4.cell? ⟨w.heap.size + 1, 1, none⟩ = some (.slice none 0 0) := HY4.out.at 1 _ rfl
            have f1 : w4.frozen? ⟨w.heap.size + 1, 1, none⟩ = false := HY4.out.fr 1 (by decide)
            have y2 : w4.cell? ⟨w.heap.size + 1, 2, none⟩ = some (.slice none 0 0) := HY4.out.at 2 _ rfl
            have f2 : w4.frozen? ⟨w.heap.size + 1, 2, none⟩ = false := HY4.out.fr 2 (by decide)
            go_wp2
            have HP := HY4.out.all [Value.slice (some ⟨g, 0, none⟩) r.1.length d1, .slice B2 r.2.1.length d2, .slice B3 r.2.2.length d3] rfl
            have HGP := grew_put (w.heap.size + 1) (by show w.heap.size ≤ _; omega) [Value.slice (some ⟨g, 0, none⟩) r.1.length d1, .slice B2 r.2.1.length d2, .slice B3 r.2.2.length d3] 0 _ HG4.out
            have hb : w.heap.size + 1 < w.heap.size + 2 := by omega
            have Q0 := OwnE.put hb [Value.slice (some ⟨g, 0, none⟩) r.1.length d1, .slice B2 r.2.1.length d2, .slice B3 r.2.2.length d3] 0 _ HO40.out
            have Q1 := OwnE.put hb [Value.slice (some ⟨g, 0, none⟩) r.1.length d1, .slice B2 r.2.1.length d2, .slice B3 r.2.2.length d3] 0 _ HO41.out
            have Q2 := OwnE.put hb [Value.slice (some ⟨g, 0, none⟩) r.1.length d1, .slice B2 r.2.1.length d2, .slice B3 r.2.2.length d3] 0 _ HO42.out
            change bodyPost _ _ _ _ _ (putC w4 (w.heap.size + 1) 0 [.slice (some ⟨g, 0, none⟩) r.1.length d1, .slice B2 r.2.1.length d2, .slice B3 r.2.2.length d3])
            generalize putC w4 (w.heap.size + 1) 0 [.slice (some ⟨g, 0, none⟩) r.1.length d1, .slice B2 r.2.1.length d2, .slice B3 r.2.2.length d3] = w9 at *
            have z0 : w9.cell? ⟨w.heap.size + 1, 0, none⟩ = _ := HP.at 0 _ rfl
            have z1 : w9.cell? ⟨w.heap.size + 1, 1, none⟩ = _ := HP.at 1 _ rfl
            have z2 : w9.cell? ⟨w.heap.size + 1, 2, none⟩ = _ := HP.at 2 _ rfl
            refine bodyPost_ret (v := .tuple #[.agg #[.slice (some ⟨g, 0, none⟩) r.1.length d1, .slice B2 r.2.1.length d2, .slice B3 r.2.2.length d3], .int .i64 0]) (by simp [results, Try.results40, go_sem, z0, z1, z2]) rfl ?_
            rw [HPX.out]
            refine ⟨some ⟨g, 0, none⟩, B2, B3, d1, d2, d3, ?_, ⟨?_, Q1.mono (by omega), Q2.mono (by omega)⟩, HGP⟩
            · (try dsimp only); rw [List.length_set]
            · (try dsimp only); rw [List.length_set]; exact Q0.mono (by omega)
        · have he2 : (nx == who) = false := by simpa using he
          have HK2 := Lib.hid (HK1.out he)
          clear HK1 HPV
          go_wp2
          go_round
          case rel => exact ⟨j + 1, by go_num, by omega, HK2.out⟩
          case measure => simp only [intOf]; omega
      · obtain rfl : j = r.1.length := by omega
        have HPV := Lib.hid (HNO.out HKK.out)
        have y0 : w3.cell? ⟨w.heap.size + 1, 0, none⟩ = some (.slice none 0 0) := HY3.out.at 0 _ rfl
        have f0 : w3.frozen? ⟨w.heap.size + 1, 0, none⟩ = false := HY3.out.fr 0 (by decide)
        have y1 : w3.cell? ⟨w.heap.size + 1, 1, none⟩ = some (.slice none 0 0) := HY3.out.at 1 _ rfl
        have f1 : w3.frozen? ⟨w.heap.size + 1, 1, none⟩ = false := HY3.out.fr 1 (by decide)
        have y2 : w3.cell? ⟨w.heap.size + 1, 2, none⟩ = some (.slice none 0 0) := HY3.out.at 2 _ rfl
        have f2 : w3.frozen? ⟨w.heap.size + 1, 2, none⟩ = false := HY3.out.fr 2 (by decide)
        go_wp2
        have HP := HY3.out.all [.slice none 0 0, .slice none 0 0, .slice none 0 0] rfl
        have HGP := grew_put (w.heap.size + 1) (by show w.heap.size ≤ _; omega) [.slice none 0 0, .slice none 0 0, .slice none 0 0] 0 _ HG3.out
        change bodyPost _ _ _ _ _ (putC w3 (w.heap.size + 1) 0 [.slice none 0 0, .slice none 0 0, .slice none 0 0])
        generalize putC w3 (w.heap.size + 1) 0 [.slice none 0 0, .slice none 0 0, .slice none 0 0] = w9 at *
        have z0 : w9.cell? ⟨w.heap.size + 1, 0, none⟩ = _ := HP.at 0 _ rfl
        have z1 : w9.cell? ⟨w.heap.size + 1, 1, none⟩ = _ := HP.at 1 _ rfl
        have z2 : w9.cell? ⟨w.heap.size + 1, 2, none⟩ = _ := HP.at 2 _ rfl
        refine bodyPost_ret (v := .tuple #[.agg #[.slice none 0 0, .slice none 0 0, .slice none 0 0], .int .i64 10]) (by simp [results, Try.results40, go_sem, z0, z1, z2]) rfl ?_
        rw [HPV.out]
        exact ⟨none, none, none, 0, 0, 0, rfl, own3_nil _ _, HGP⟩
  · rw [Bool.not_eq_true] at hr
    have hrf : ¬ rightR r = true := by rw [hr]; decide
    rw [show putP r who state = (rl0, 14) by unfold putP; rw [if_neg hrf]]
    rw [hr] at CK
    go_enter Try.func40, Try.ntmps40
    go_upto_region 1 with fail
    have HGI : Hid (Grew w ((w.alloc (.cells #[.slice A1 n1 c1, .slice A2 n2 c2, .slice A3 n3 c3] 26)).alloc (.cells #[.slice none 0 0, .slice none 0 0, .slice none 0 0] 26))) := grew_trans (grew_alloc _ _ _) (grew_alloc _ _ _)
    have HX0 : Hid (OwnC ((w.alloc (.cells #[.slice A1 n1 c1, .slice A2 n2 c2, .slice A3 n3 c3] 26)).alloc (.cells #[.slice none 0 0, .slice none 0 0, .slice none 0 0] 26)) w.heap.size [.slice A1 n1 c1, .slice A2 n2 c2, .slice A3 n3 c3]) := (OwnC.new w [.slice A1 n1 c1, .slice A2 n2 c2, .slice A3 n3 c3] _ _ rfl).keep (grew_alloc _ _ _)
    have HY0 : Hid (OwnC ((w.alloc (.cells #[.slice A1 n1 c1, .slice A2 n2 c2, .slice A3 n3 c3] 26)).alloc (.cells #[.slice none 0 0, .slice none 0 0, .slice none 0 0] 26)) (w.heap.size + 1) [.slice none 0 0, .slice none 0 0, .slice none 0 0]) := OwnC.new _ [.slice none 0 0, .slice none 0 0, .slice none 0 0] _ _ (by simp)
    generalize ((w.alloc (.cells #[.slice A1 n1 c1, .slice A2 n2 c2, .slice A3 n3 c3] 26)).alloc (.cells #[.slice none 0 0, .slice none 0 0, .slice none 0 0] 26)) = w0 at *
    have x0 : w0.cell? ⟨w.heap.size, 0, none⟩ = some (.slice A1 n1 c1) := HX0.out.at 0 _ rfl
    have x1 : w0.cell? ⟨w.heap.size, 1, none⟩ = some (.slice A2 n2 c2) := HX0.out.at 1 _ rfl
    have x2 : w0.cell? ⟨w.heap.size, 2, none⟩ = some (.slice A3 n3 c3) := HX0.out.at 2 _ rfl
    go_wp2_with (go_at_call 12; ((with_reducible refine (CK _ HGI.out).mono ?_); rintro e w1 ⟨rfl, hg⟩; have HX1 := Lib.hid (HX0.out.keep hg); have HY1 := Lib.hid (HY0.out.keep hg); have HG1 := Lib.hid (grew_trans HGI.out hg); have y0 : w1.cell? ⟨w.heap.size + 1, 0, none⟩ = some (.slice none 0 0) := HY1.out.at 0 _ rfl; have f0 : w1.frozen? ⟨w.heap.size + 1, 0, none⟩ = false := HY1.out.fr 0 (by decide); have y1 : w1.cell? ⟨w.heap.size + 1, 1, none⟩ = some (.slice none 0 0) := HY1.out.at 1 _ rfl; have f1 : w1.frozen? ⟨w.heap.size + 1, 1, none⟩ = false := HY1.out.fr 1 (by decide); have y2 : w1.cell? ⟨w.heap.size + 1, 2, none⟩ = some (.slice none 0 0) := HY1.out.at 2 _ rfl; have f2 : w1.frozen? ⟨w.heap.size + 1, 2, none⟩ = false := HY1.out.fr 2 (by decide); clear hg CK))
    have HP := HY1.out.all [.slice none 0 0, .slice none 0 0, .slice none 0 0] rfl
    have HGP := grew_put (w.heap.size + 1) (by show w.heap.size ≤ _; omega) [.slice none 0 0, .slice none 0 0, .slice none 0 0] 0 _ HG1.out
    change bodyPost _ _ _ _ _ (putC w1 (w.heap.size + 1) 0 [.slice none 0 0, .slice none 0 0, .slice none 0 0])
    generalize putC w1 (w.heap.size + 1) 0 [.slice none 0 0, .slice none 0 0, .slice none 0 0] = w9 at *
    have z0 : w9.cell? ⟨w.heap.size + 1, 0, none⟩ = _ := HP.at 0 _ rfl
    have z1 : w9.cell? ⟨w.heap.size + 1, 1, none⟩ = _ := HP.at 1 _ rfl
    have z2 : w9.cell? ⟨w.heap.size + 1, 2, none⟩ = _ := HP.at 2 _ rfl
    refine bodyPost_ret (v := .tuple #[.agg #[.slice none 0 0, .slice none 0 0, .slice none 0 0], .int .i64 14]) (by simp [results, Try.results40, go_sem, z0, z1, z2]) rfl ?_
    exact ⟨none, none, none, 0, 0, 0, rfl, own3_nil _ _, HGP⟩
end Go.Proofs.Ytnbgbfbiieimgaa.NumK
