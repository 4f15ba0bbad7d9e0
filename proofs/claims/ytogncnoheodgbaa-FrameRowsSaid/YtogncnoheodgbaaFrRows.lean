/- The law FrameRows. -/
import Derived.Test.YtogncnoheodgbaaFrLaw0
import Derived.Test.YtogncnoheodgbaaOpenRB
namespace Go.Proofs.Ytogncnoheodgbaa.NumK
open Go.RowKit

/-- Frames one behind the other, their numbers from i on. -/
def catF (g : Nat) : Nat → List (List UInt8) → List UInt8
  | _, [] => []
  | i, l :: r => frameB g i l ++ catF g (i + 1) r
theorem catF_append (g i : Nat) (l m : List (List UInt8)) : catF g i (l ++ m) = catF g i l ++ catF g (i + l.length) m := by
  induction l generalizing i with
  | nil => simp [catF]
  | cons x l ih =>
    simp only [List.cons_append, catF, List.length_cons]
    rw [ih, List.append_assoc, show i + 1 + l.length = i + (l.length + 1) by omega]
theorem catF_snoc (g : Nat) (ls : List (List UInt8)) (k : Nat) (hk : k < ls.length) : catF g 0 (ls.take (k + 1)) = catF g 0 (ls.take k) ++ frameB g k (ls.getD k []) := by
  rw [List.take_succ_eq_append_getElem hk, catF_append]
  simp [catF, List.getD, hk, Nat.min_eq_left (Nat.le_of_lt hk)]
theorem catF_drop (g : Nat) (ls : List (List UInt8)) (k : Nat) (hk : k < ls.length) : catF g k (ls.drop k) = frameB g k (ls.getD k []) ++ catF g (k + 1) (ls.drop (k + 1)) := by
  rw [List.drop_eq_getElem_cons hk]
  simp [catF, List.getD, hk]
theorem bys_zero (w : World) (N : Nat) (t : TypeId) : Bys (w.alloc (.cells (madeCells #[.int .u8 0] N) t)) (some ⟨w.heap.size, 0, none⟩) N (List.replicate N 0) := by
  refine ⟨by simp, fun _ => ⟨_, _, rfl, by simp, fun j hj => ?_⟩⟩
  have hs : (madeCells #[.int .u8 0] N).size = N := size_madeCells _ _
  rw [Nat.zero_add, World.cell?_alloc_at _ _ _ _ rfl]
  simp [madeCells, hj, Nat.mod_one, List.getD]

theorem RowsB.at0 {w : World} {A : Option Addr} {n : Nat} {l : List (List UInt8)} (h : RowsB w A n l) {k : Nat} (hk : k < n) :
    ∃ b o A1 n1 c1, A = some ⟨b, o, none⟩ ∧ (∀ w', Grew w w' → w'.cell? ⟨b, o + k, none⟩ = some (.slice A1 n1 c1)) ∧ Bys w A1 n1 (l.getD k []) ∧ (A1 = none → c1 = 0) ∧ n1 ≤ c1 := by
  obtain ⟨b, o, e, hb, hc⟩ := h.2 (by omega)
  obtain ⟨A1, n1, c1, h1, h2, h3, h4, _⟩ := hc k hk
  exact ⟨b, o, A1, n1, c1, e, fun w' g => (grew_cell g (p := ⟨b, o + k, none⟩) hb).trans h1, h2, h3, h4⟩

set_option maxRecDepth 100000 in
set_option maxHeartbeats 4000000 in
theorem frameRows_walk (A : Option Addr) (n c : Nat) (ls : List (List UInt8)) (gen : Int) (u : UInt8) (w : World) (h : RowsB w A n ls) (hn : n ≤ 9223372036854775807) :
    Calls Try.prog 9 #[.slice A n c, .int .i64 gen, .int .u8 (u.toNat : Int)] w fun e w' => e = .returned (.bool true) ∧ Grew w w' := by
  by_cases k1 : (100 : Int) < (n : Int)
  · clear h
    go_enter Try.func9, Try.ntmps9
    go_wp2
    go_ret
    exact ⟨rfl, grew_refl _⟩
  by_cases k2 : gen < 0
  · clear h
    go_enter Try.func9, Try.ntmps9
    go_wp2
    go_ret
    exact ⟨rfl, grew_refl _⟩
  by_cases k3 : 1099511627776 < gen
  · clear h
    go_enter Try.func9, Try.ntmps9
    go_wp2
    go_ret
    exact ⟨rfl, grew_refl _⟩
  by_cases k4 : u.toNat = 195
  · have d4 : ((u.toNat : Int) == 195) = true := by simp; omega
    generalize u.toNat = x at *
    clear h k4
    go_enter Try.func9, Try.ntmps9
    go_wp2
    go_ret
    exact ⟨rfl, grew_refl _⟩
  have d4 : ((u.toNat : Int) == 195) = false := by simp; omega
  have HI := Lib.hid h
  have HLEN := Lib.hid h.1
  have CW := Lib.hid (fun w => wakes05_any w)
  obtain ⟨N1, hN1⟩ : ∃ N1 : Nat, N1 = 65536 := ⟨_, rfl⟩
  obtain ⟨N2, hN2⟩ : ∃ N2 : Nat, N2 = 65537 := ⟨_, rfl⟩
  have hmk1 : ∀ x : World, (Instr.makeSlice 23 (.int .i64 65536) (.int .i64 65536)).run Try.prog x = .ok (.slice (some ⟨x.heap.size, 0, none⟩) N1 N1) (x.alloc (.cells (madeCells #[.int .u8 0] N1) 5)) := fun x => by
    rw [show (65536 : Int) = (N1 : Int) by omega]; exact run_u8s x N1 (by omega)
  have hmk2 : ∀ x : World, (Instr.makeSlice 23 (.int .i64 65537) (.int .i64 65537)).run Try.prog x = .ok (.slice (some ⟨x.heap.size, 0, none⟩) N2 N2) (x.alloc (.cells (madeCells #[.int .u8 0] N2) 5)) := fun x => by
    rw [show (65537 : Int) = (N2 : Int) by omega]; exact run_u8s x N2 (by omega)
  have CS1 : Hid (∀ x : World, Calls Try.prog 14 #[.int .i64 gen, .int .i64 0, .slice (some ⟨x.heap.size, 0, none⟩) N1 N1] (x.alloc (.cells (madeCells #[.int .u8 0] N1) 5)) fun e w' => Grew x w' ∧ ∃ v, e = .returned (.tuple #[v, .int .i64 0])) := fun x =>
    (seal_fits gen 0 (some ⟨x.heap.size, 0, none⟩) N1 N1 (N1 + 21) _ _ rfl (bys_zero x N1 5) (fun h => by cases h) (Nat.le_refl _) (by omega) (by omega) (by omega) (by omega) (by omega)).mono fun e w' ⟨hg, A2, c2, he, _⟩ => ⟨grew_trans (grew_alloc _ _ _) hg, _, he⟩
  have hm2 : mayI gen 0 N2 = 5 := by unfold mayI; rw [if_neg (by omega), if_pos (by omega)]
  have CS2 : Hid (∀ x : World, Calls Try.prog 14 #[.int .i64 gen, .int .i64 0, .slice (some ⟨x.heap.size, 0, none⟩) N2 N2] (x.alloc (.cells (madeCells #[.int .u8 0] N2) 5)) fun e w' => Grew x w' ∧ e = .returned (.tuple #[.slice none 0 0, .int .i64 5])) := fun x =>
    (seal_none gen 0 (some ⟨x.heap.size, 0, none⟩) N2 N2 _ _ (bys_zero x N2 5) (fun h => by cases h) (Nat.le_refl _) (by rw [hm2]; decide)).mono fun e w' ⟨hg, he⟩ => ⟨grew_trans (grew_alloc _ _ _) hg, by rw [he, hm2]⟩
  have CSL : Hid (∀ (k : Nat) A1 n1 c1 l x, k ≤ 100 → Bys x A1 n1 l → (A1 = none → c1 = 0) → n1 ≤ c1 → n1 ≤ 1000 → Calls Try.prog 14 #[.int .i64 gen, .int .i64 (k : Int), .slice A1 n1 c1] x fun e w' => Grew x w' ∧ ∃ A2 c2, e = .returned (.tuple #[.slice A2 (n1 + 21) c2, .int .i64 0]) ∧ OwnB x.heap.size w' A2 (n1 + 21) c2 (frameB gen.toNat k l)) := fun k A1 n1 c1 l x hk hb ha hc hn =>
    seal_fits gen (k : Int) A1 n1 c1 (n1 + 21) l x rfl hb ha hc (by omega) (by omega) (by omega) (by omega) (by omega)
  have CFB : Hid (∀ (k : Nat) A3 M c3 (n1 Z : Nat) (l more : List UInt8) x, k ≤ 100 → Z = n1 + 21 → l.length = n1 → n1 ≤ 1000 → Bys x A3 M (frameB gen.toNat k l ++ more) → (A3 = none → c3 = 0) → M ≤ c3 → c3 ≤ 9223372036854775807 → Calls Try.prog 18 #[.slice A3 M c3] x fun e w' => Grew x w' ∧ ∃ A2 c2, e = .returned (.tuple #[.int .i64 gen, .int .i64 (k : Int), .slice A2 n1 c2, .int .i64 (Z : Int), .int .i64 0]) ∧ OwnB x.heap.size w' A2 n1 c2 l) := fun k A3 M c3 n1 Z l more x hk hZ hl hn hb ha hc hc2 =>
    first_back gen (k : Int) A3 M c3 n1 Z l more x hZ hl hb ha hc hc2 (by omega) (by omega) (by omega) (by omega) (by omega)
  clear h hm2 hN1 hN2
  obtain ⟨g, hg⟩ : ∃ g, g = gen.toNat := ⟨_, rfl⟩
  rw [← hg] at CSL CFB
  clear hg
  go_enter Try.func9, Try.ntmps9
  go_wp2
  go_loopw [7, 8] (fun v7 v8 wr => ∃ k m : Nat, v8 = .int .i64 k ∧ k ≤ n ∧ m ≤ k * 1021 ∧ Hid (wr.ownsRow w.heap.size 5 1 v7 m ((catF g 0 (ls.take k)).map byv)) ∧ Hid (∀ j, j < k → (ls.getD j []).length ≤ 1000) ∧ Hid (Grew w wr)) (fun _ v8 _ => n - (intOf v8).toNat)
  case atStart => exact ⟨0, 0, rfl, by omega, by omega, World.ownsRow_nil _ _ _ _, fun j hj => by omega, grew_refl _⟩
  case round =>
    obtain ⟨k, m, rfl, hk, hm, HO, HSH, HG⟩ := hrel
    by_cases hlt : k < n
    · obtain ⟨b, o, A1, n1, c1, rfl, g0, hb1, hA1, hc1, hn1⟩ := (HI.out.keep HG.out).at hlt
      have HF := Lib.hid (catF_snoc g ls k (by rw [HLEN.out]; exact hlt))
      have a3 : (k : Int) < (n : Int) := by omega
      have HB1 := Lib.hid hb1
      have HN1 : Hid (n1 ≤ 1000 → ∀ j, j < k + 1 → (ls.getD j []).length ≤ 1000) := fun hx j hj => by
        by_cases e : j = k
        · subst e; rw [hb1.1]; exact hx
        · exact HSH.out j (by omega)
      clear hb1
      generalize ls.getD k [] = l at *
      by_cases hr : (1000 : Int) < (n1 : Int)
      · go_wp2
        go_ret
        exact ⟨rfl, HG.out⟩
      · have HN2 := Lib.hid (HN1.out (by omega))
        have HS := Lib.hid (CSL.out k A1 n1 c1 l wr (by omega) HB1.out hA1 hc1 (by omega))
        clear HN1
        go_wp2_with (first
          | (go_at_call 14; ((with_reducible refine HS.out.mono ?_); rintro e x1 ⟨hg, A2, c2, rfl, ho⟩; have HG1 := Lib.hid (grew_trans HG.out hg); have HO1 := Lib.hid (ownB_keep HO.out hg); have HF2 := Lib.hid ho.2.1; have HA2 := Lib.hid ho.2.2.1; have HSZ := Lib.hid (grew_trans HG.out hg).size; clear hg ho HS))
          | (at_builtin; refine (wpList_append_bytes rfl _ _ rfl w.heap.size _ m _ rfl HO1.out A2 (n1 + 21) c2 _ rfl HA2.out HF2.out (by omega) HSZ.out ?_); intro v5 w5 hv hb; rw [← HF.out] at hv; have HV5 := Lib.hid hv; have HG5 := Lib.hid (HG1.out.trans hb); clear hv hb))
        go_roundw
        case rel => exact ⟨k + 1, m + (n1 + 21), by go_num, by omega, by omega, HV5, HN2, HG5⟩
        case measure => simp only [intOf]; omega
    · obtain rfl : k = n := by omega
      have hfl : catF g 0 (ls.take k) = catF g 0 ls := by rw [List.take_of_length_le (by rw [HLEN.out]; omega)]
      rw [hfl] at HO
      clear hfl
      have HSZ := Lib.hid (Below.alloc HG.out HG.out.size (.cells #[.int .u8 (u.toNat : Int)] 5)).size
      go_upto_region 14 with (at_builtin; refine (wpList_append_bytes rfl _ _ rfl w.heap.size _ m _ rfl (HO.out.alloc _) (some ⟨wr.heap.size, 0, none⟩) 1 1 [u] rfl (by intro h; cases h) (bys1 _ u _ _ rfl) (by omega) HSZ.out ?_); intro v' w' hv' hb'; obtain ⟨A4, c4, rfl, ho4⟩ := ownB_of hv'; have HO4 := Lib.hid ho4.2; have HG4 := Lib.hid ((Below.alloc HG.out HG.out.size _).trans hb'); clear hv' hb' ho4)
      obtain ⟨b4, o4, e4, _, _⟩ := HO4.out.1.2 (by omega)
      subst e4
      have hm4 : m ≤ 102100 := by omega
      clear HO HSZ
      have HSTART : Hid (Bys w' (some ⟨b4, o4, none⟩) (m + 1) (catF g 0 (ls.drop 0) ++ [u])) := HO4.out.1
      have HC4 : Hid (m + 1 ≤ c4 ∧ c4 ≤ 9223372036854775807) := HO4.out.2.2
      clear HO4
      go_upto_region 15 with (fail)
      go_loopw [7, 11] (fun v7 v11 wx => ∃ j b o M cc : Nat, v11 = .int .i64 j ∧ v7 = .slice (some ⟨b, o, none⟩) M cc ∧ j ≤ k ∧ M ≤ cc ∧ cc ≤ 9223372036854775807 ∧ Hid (Bys wx (some ⟨b, o, none⟩) M (catF g j (ls.drop j) ++ [u])) ∧ Hid (Grew w wx)) (fun _ v11 _ => k - (intOf v11).toNat)
      case atStart => exact ⟨0, b4, o4, m + 1, c4, rfl, rfl, by omega, HC4.out.1, HC4.out.2, HSTART, HG4⟩
      case round =>
        clear HSTART HC4 HG4
        obtain ⟨j, b, o, M, cc, rfl, rfl, hj, hM, hcc, HB, HGX⟩ := hrel
        by_cases hlt2 : j < k
        · obtain ⟨b1, o1, A1, n1, c1, rfl, hcell, hb1, hA1, hc1⟩ := HI.out.at0 hlt2
          have a3 : (j : Int) < (k : Int) := by omega
          have hl := HSH.out j hlt2
          have hl1 := hb1.1
          have HCELL := Lib.hid hcell
          have hBX := HB.out
          rw [catF_drop g ls j (by rw [HLEN.out]; exact hlt2), List.append_assoc] at hBX
          obtain ⟨Z, hZ⟩ : ∃ Z : Nat, Z = n1 + 21 := ⟨_, rfl⟩
          have hFL : (frameB g j (ls.getD j [])).length = Z := by rw [frameB_len]; omega
          have hML : M = Z + ((catF g (j + 1) (ls.drop (j + 1))).length + 1) := by
            have := hBX.1
            rw [List.length_append, List.length_append, hFL] at this
            simpa using this.symm
          have hcM : Z < cc := by omega
          have HF := Lib.hid (CFB.out j (some ⟨b, o, none⟩) M cc n1 Z (ls.getD j []) _ wr (by omega) hZ hl1 (by omega) hBX (fun h => by cases h) hM hcc)
          have HK := Lib.hid (fun A5 c5 w5 (hb5 : Bys w5 A5 n1 (ls.getD j [])) (hg : Grew w w5) => keepBytes_any A5 A1 n1 n1 c5 c1 _ _ w5 hb5 (hb1.keep hg) (by omega) (by omega))
          rw [decide_eq_true (p := ls.getD j [] = ls.getD j []) rfl] at HK
          have HD := Lib.hid (hBX.drop (k := Z) (by omega))
          rw [List.drop_append_of_le_length (by omega), List.drop_of_length_le (by omega), List.nil_append] at HD
          have w1 : IntKind.i64.wrap ((n1 : Int) + 21) = (Z : Int) := by rw [IntKind.wrap_i64]; omega
          have i1 : (Z : Int) ≤ (M : Int) := by omega
          have i2 : (M : Int) ≤ (cc : Int) := by omega
          have i3 : ¬ cc = Z := by omega
          have HZC : Hid (M - Z ≤ cc - Z) := by show _ ≤ _; omega
          clear hb1 hl hl1 hBX hZ hFL hML HB hcell hcM
          go_upto_region 18 with (go_at_call 18; ((with_reducible refine HF.out.mono ?_); rintro e x5 ⟨hg, A5, c5, rfl, ho⟩; have HG5 := Lib.hid (grew_trans HGX.out hg); have HK5 := Lib.hid (HK.out A5 c5 x5 ho.2.1 (grew_trans HGX.out hg)); have HD5 := Lib.hid (HD.out.keep hg); have g5 := HCELL.out x5 (grew_trans HGX.out hg); clear hg ho HF HK))
          go_wp2_with (go_at_call 16; ((with_reducible refine HK5.out.mono ?_); rintro e x6 ⟨rfl, hg⟩; have HG6 := Lib.hid (grew_trans HG5.out hg); have HD6 := Lib.hid (HD5.out.keep hg); have g6 := HCELL.out x6 (grew_trans HG5.out hg); clear hg HK5))
          go_roundw
          case rel => exact ⟨j + 1, b, o + Z, M - Z, cc - Z, by go_num, rfl, by omega, HZC.out, by omega, HD6, HG6⟩
          case measure => simp only [intOf]; omega
        · obtain rfl : j = k := by omega
          have hE : catF g j (ls.drop j) = [] := by rw [List.drop_of_length_le (by rw [HLEN.out]; omega)]; rfl
          have hB := HB.out
          rw [hE, List.nil_append] at hB
          obtain rfl : M = 1 := by have := hB.1; simpa using this.symm
          have HF := Lib.hid (first_none (some ⟨b, o, none⟩) 1 cc [u] wr hB (fun h => by cases h) hM hcc (frs_short (by simp)))
          clear hE hB HB
          go_wp2_with (first
            | (go_at_call 18; ((with_reducible refine HF.out.mono ?_); rintro e x1 ⟨hg, rfl⟩; have HG1 := Lib.hid (grew_trans HGX.out hg); clear hg HF))
            | (go_at_call 14; ((with_reducible refine (CS1.out _).mono ?_); rintro e x2 ⟨hg, v2, rfl⟩; have HG2 := Lib.hid (grew_trans HG1.out hg); clear hg CS1))
            | (go_at_call 14; ((with_reducible refine (CS2.out _).mono ?_); rintro e x3 ⟨hg, rfl⟩; have HG3 := Lib.hid (grew_trans HG2.out hg); clear hg CS2))
            | (go_at_call 12; ((with_reducible refine (CW.out _).mono ?_); rintro e x7 ⟨rfl, hg⟩; have HG7 := Lib.hid (grew_trans HG3.out hg); clear hg)))
          go_ret
          exact ⟨rfl, HG7.out⟩

theorem frameRows_row (A : Option Addr) (n c : Nat) (l : List (List Int)) (gen b8 : Int) (w : World) (h : Row (spSliceZ 1 (spInt .u8)) w A n l) (hn : n ≤ 9223372036854775807) (hb0 : 0 ≤ b8) (hb1 : b8 ≤ 255) :
    Calls Try.prog 9 #[.slice A n c, .int .i64 gen, .int .u8 b8] w fun e w' => e = .returned (.bool true) ∧ Grew w w' := by
  obtain ⟨xs, hx, _⟩ := rowsB_of_row h
  obtain ⟨u, rfl⟩ : ∃ u : UInt8, b8 = (u.toNat : Int) := ⟨UInt8.ofNat b8.toNat, by rw [u8_ofNat_mod]; omega⟩
  exact frameRows_walk A n c xs gen u w hx hn
end Go.Proofs.Ytogncnoheodgbaa.NumK
