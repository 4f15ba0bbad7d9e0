/- book.Enter. -/
import Derived.Test.YtahioajpmlochaaGreatRH20
import Derived.Test.YtahioajpmlochaaGreatRH21
import Derived.Deep.RegionHeld3
namespace Go.Proofs.YtahioajpmlochaaGreat.NumK
open Go.RowKit
set_option linter.unusedVariables false

theorem bookN_no {b : Bk} {no n : Int} (hb : b = bk0) (hno : no = 0) {w w' : World} (g : Grew w w') : BookN b no n w (.returned (.tuple #[.agg #[.int .i64 0, .slice none 0 0, .slice none 0 0], .int .i64 0, .int .i64 n])) w' := by
  subst hb hno
  exact ⟨none, none, 0, 0, rfl, OwnB.nil _ _, g⟩
theorem legs_len (t : Tr) (back : Bool) : (legsT t back).length ≤ 2 := by
  unfold legsT; split
  · exact Nat.le_refl _
  · exact Nat.zero_le _
theorem enterE_no {b : Bk} {t : Tr} (h : enterE b t ≠ 0) : enterB b t = bk0 ∧ enterN b t = 0 := by
  unfold enterB enterN
  rw [if_neg h, if_neg h]; exact ⟨rfl, rfl⟩
theorem addE_no {b : Bk} {m : List Po} (h : addE b m ≠ 0) : addB b m = bk0 := by
  unfold addB; rw [if_neg h]
theorem enter_no {b : Bk} {t : Tr} {n : Int} (h : enterE b t = n) (hn : n ≠ 0) {w : World} : ∀ w', Grew w w' → BookN (enterB b t) (enterN b t) (enterE b t) w (.returned (.tuple #[.agg #[.int .i64 0, .slice none 0 0, .slice none 0 0], .int .i64 0, .int .i64 n])) w' := fun w' g => by
  subst h
  obtain ⟨h1, h2⟩ := enterE_no hn
  exact bookN_no h1 h2 g

set_option maxRecDepth 100000 in
set_option maxHeartbeats 8000000 in
theorem enter_any (b : Bk) (t : Tr) (A1 A2 : Option Addr) (n1 n2 c1 c2 : Nat) (w : World) (h : InB w b A1 A2 n1 n2 c1 c2) (hn : n1 ≤ 10000 ∧ n2 ≤ 10000) :
    Calls Tryz.prog 30 #[vBk b.1 A1 A2 n1 n2 c1 c2, vTr t] w (BookN (enterB b t) (enterN b t) (enterE b t) w) := by
  have CC := fun w' (g : Grew w w') => bcheck_any b A1 A2 n1 n2 c1 c2 w' (h.keep g) ⟨by omega, by omega⟩
  by_cases hr : rightB b = true
  · rw [chkB_yes hr] at CC
    have CT := fun w' => rightTrade_any t w'
    by_cases ht : numsT t = true
    · rw [ht] at CT
      by_cases h128 : ¬ 128 ≤ b.2.1.length
      · have l128 : ((n1 : Int) == 128) = false := by rw [← h.t.len]; simp; omega
        by_cases hnx : b.1 ≠ 1099511627776
        · have lnx : (b.1 == 1099511627776) = false := by simpa using hnx
          have he : enterE b t = addE b (legsT t false) := by
            unfold enterE; rw [if_pos hr, if_pos ht, if_neg h128, if_neg hnx]
          have CL := fun w' => legs12_any t w'
          unfold LegsPost at CL
          have CA := fun (A : Option Addr) (c : Nat) w' (g : Grew w w') (ho : OwnE enPo w' 0 31 (.slice A (legsT t false).length c) (legsT t false)) => badd_any b A1 A2 A n1 n2 (legsT t false).length c1 c2 c (legsT t false) w' (h.keep g) (own_form ho).1 (own_form ho).2.1 ⟨hn.1, hn.2, by have := legs_len t false; omega⟩
          unfold BookE at CA
          have HLT := Lib.hid h.t.len
          by_cases ha : addE b (legsT t false) = 0
          · have hE := he.trans ha
            have HYES : Hid (∀ w' A A' c c', OwnB w' w.heap.size (b.1 + 1, b.2.1 ++ [asNo t (b.1 + 1)], plA (addF b.2.2 (legsT t false))) A A' c c' → Grew w w' → BookN (enterB b t) (enterN b t) (enterE b t) w (.returned (.tuple #[vBk (b.1 + 1) A A' (b.2.1.length + 1) (plA (addF b.2.2 (legsT t false))).length c c', .int .i64 (b.1 + 1), .int .i64 0])) w') := fun w' A A' c c' ho g => by
              rw [enterB_ok hE, enterN_ok hE, hE]
              exact ⟨A, A', c, c', by rw [List.length_append]; rfl, ho, g⟩
            rw [addB_ok ha, ha] at CA
            have hb1 : 0 ≤ b.1 ∧ b.1 < 1099511627776 := by have := ((rightB_iff b).1 hr).1; omega
            have hl : b.2.1.length ≤ 10000 := by rw [h.t.len]; exact hn.1
            clear h he hE ha hr ht h128 hnx
            generalize BookN (enterB b t) (enterN b t) (enterE b t) w = PP at *
            generalize plA (addF b.2.2 (legsT t false)) = pl at *
            have HAS : Hid (∀ k, asNo t k = ((k, t.1.2), false)) := fun k => rfl
            generalize legsT t false = lg at *
            generalize b.2.1 = lt at *
            obtain ⟨⟨q1, q2, q3, q4, q5, q6⟩, q7⟩ := t
            dsimp only [vBk, vTr] at *
            generalize b.1 = nx at *
            have HX0 : Hid (OwnC (((w.alloc (.cells #[.int .i64 nx, .slice A1 n1 c1, .slice A2 n2 c2] 28)).alloc (.cells #[.int .i64 q1, .int .i64 q2, .int .i64 q3, .int .i64 q4, .int .i64 q5, .int .i64 q6, .bool q7] 50)).alloc (.cells #[.int .i64 0, .slice none 0 0, .slice none 0 0] 28)) w.heap.size [.int .i64 nx, .slice A1 n1 c1, .slice A2 n2 c2]) := ((OwnC.new w [.int .i64 nx, .slice A1 n1 c1, .slice A2 n2 c2] _ _ rfl).keep (grew_alloc _ _ _)).keep (grew_alloc _ _ _)
            have HT0 : Hid (OwnC (((w.alloc (.cells #[.int .i64 nx, .slice A1 n1 c1, .slice A2 n2 c2] 28)).alloc (.cells #[.int .i64 q1, .int .i64 q2, .int .i64 q3, .int .i64 q4, .int .i64 q5, .int .i64 q6, .bool q7] 50)).alloc (.cells #[.int .i64 0, .slice none 0 0, .slice none 0 0] 28)) (w.heap.size + 1) [.int .i64 q1, .int .i64 q2, .int .i64 q3, .int .i64 q4, .int .i64 q5, .int .i64 q6, .bool q7]) := (OwnC.new _ [.int .i64 q1, .int .i64 q2, .int .i64 q3, .int .i64 q4, .int .i64 q5, .int .i64 q6, .bool q7] _ _ (by simp)).keep (grew_alloc _ _ _)
            have HZ0 : Hid (OwnC (((w.alloc (.cells #[.int .i64 nx, .slice A1 n1 c1, .slice A2 n2 c2] 28)).alloc (.cells #[.int .i64 q1, .int .i64 q2, .int .i64 q3, .int .i64 q4, .int .i64 q5, .int .i64 q6, .bool q7] 50)).alloc (.cells #[.int .i64 0, .slice none 0 0, .slice none 0 0] 28)) (w.heap.size + 1 + 1) [.int .i64 0, .slice none 0 0, .slice none 0 0]) := OwnC.new _ [.int .i64 0, .slice none 0 0, .slice none 0 0] _ _ (by simp)
            have HG0 : Hid (Grew w (((w.alloc (.cells #[.int .i64 nx, .slice A1 n1 c1, .slice A2 n2 c2] 28)).alloc (.cells #[.int .i64 q1, .int .i64 q2, .int .i64 q3, .int .i64 q4, .int .i64 q5, .int .i64 q6, .bool q7] 50)).alloc (.cells #[.int .i64 0, .slice none 0 0, .slice none 0 0] 28))) := grew_trans (grew_trans (grew_alloc _ _ _) (grew_alloc _ _ _)) (grew_alloc _ _ _)
            go_enter Tryz.func30, Tryz.ntmps30
            go_upto_region 1 with fail
            generalize ((w.alloc (.cells #[.int .i64 nx, .slice A1 n1 c1, .slice A2 n2 c2] 28)).alloc (.cells #[.int .i64 q1, .int .i64 q2, .int .i64 q3, .int .i64 q4, .int .i64 q5, .int .i64 q6, .bool q7] 50)).alloc (.cells #[.int .i64 0, .slice none 0 0, .slice none 0 0] 28) = w0 at *
            have x0 : w0.cell? ⟨w.heap.size, 0, none⟩ = some (.int .i64 nx) := HX0.out.at 0 _ rfl
            have x1 : w0.cell? ⟨w.heap.size, 1, none⟩ = some (.slice A1 n1 c1) := HX0.out.at 1 _ rfl
            have x2 : w0.cell? ⟨w.heap.size, 2, none⟩ = some (.slice A2 n2 c2) := HX0.out.at 2 _ rfl
            go_upto_region 10 with (first
              | (go_at_call 12; ((with_reducible refine (CC _ HG0.out).mono ?_); rintro e w1 ⟨rfl, hg⟩; have HG1 := Lib.hid (grew_trans HG0.out hg); have HX1 := Lib.hid (HX0.out.keep hg); have HT1 := Lib.hid (HT0.out.keep hg); have HZ1 := Lib.hid (HZ0.out.keep hg); have t0 : w1.cell? ⟨w.heap.size + 1, 0, none⟩ = some (.int .i64 q1) := HT1.out.at 0 _ rfl; have t1 : w1.cell? ⟨w.heap.size + 1, 1, none⟩ = some (.int .i64 q2) := HT1.out.at 1 _ rfl; have t2 : w1.cell? ⟨w.heap.size + 1, 2, none⟩ = some (.int .i64 q3) := HT1.out.at 2 _ rfl; have t3 : w1.cell? ⟨w.heap.size + 1, 3, none⟩ = some (.int .i64 q4) := HT1.out.at 3 _ rfl; have t4 : w1.cell? ⟨w.heap.size + 1, 4, none⟩ = some (.int .i64 q5) := HT1.out.at 4 _ rfl; have t5 : w1.cell? ⟨w.heap.size + 1, 5, none⟩ = some (.int .i64 q6) := HT1.out.at 5 _ rfl; have t6 : w1.cell? ⟨w.heap.size + 1, 6, none⟩ = some (.bool q7) := HT1.out.at 6 _ rfl; clear hg CC x0 x1 x2))
              | (go_at_call 55; ((with_reducible refine (CT _).mono ?_); rintro e w2 ⟨rfl, hg⟩; have HG2 := Lib.hid (grew_trans HG1.out hg); have HX2 := Lib.hid (HX1.out.keep hg); have HT2 := Lib.hid (HT1.out.keep hg); have HZ2 := Lib.hid (HZ1.out.keep hg); have x0 : w2.cell? ⟨w.heap.size, 0, none⟩ = some (.int .i64 nx) := HX2.out.at 0 _ rfl; have x1 : w2.cell? ⟨w.heap.size, 1, none⟩ = some (.slice A1 n1 c1) := HX2.out.at 1 _ rfl; have x2 : w2.cell? ⟨w.heap.size, 2, none⟩ = some (.slice A2 n2 c2) := HX2.out.at 2 _ rfl; clear hg CT t0 t1 t2 t3 t4 t5 t6)))
            have HSO : Hid (∀ w', OwnC w' (w.heap.size) [.int .i64 nx, .slice A1 n1 c1, .slice A2 n2 c2] → OwnC w' (w.heap.size + 1) [.int .i64 q1, .int .i64 q2, .int .i64 q3, .int .i64 q4, .int .i64 q5, .int .i64 q6, .bool q7] → (w'.cell? ⟨w.heap.size, 0, none⟩ = some (.int .i64 nx) ∧ w'.cell? ⟨w.heap.size, 1, none⟩ = some (.slice A1 n1 c1) ∧ w'.cell? ⟨w.heap.size, 2, none⟩ = some (.slice A2 n2 c2) ∧ w'.cell? ⟨w.heap.size + 1, 0, none⟩ = some (.int .i64 q1) ∧ w'.cell? ⟨w.heap.size + 1, 1, none⟩ = some (.int .i64 q2) ∧ w'.cell? ⟨w.heap.size + 1, 2, none⟩ = some (.int .i64 q3) ∧ w'.cell? ⟨w.heap.size + 1, 3, none⟩ = some (.int .i64 q4) ∧ w'.cell? ⟨w.heap.size + 1, 4, none⟩ = some (.int .i64 q5) ∧ w'.cell? ⟨w.heap.size + 1, 5, none⟩ = some (.int .i64 q6) ∧ w'.cell? ⟨w.heap.size + 1, 6, none⟩ = some (.bool q7))) := fun w' hx ht => ⟨hx.at 0 _ rfl, hx.at 1 _ rfl, hx.at 2 _ rfl, ht.at 0 _ rfl, ht.at 1 _ rfl, ht.at 2 _ rfl, ht.at 3 _ rfl, ht.at 4 _ rfl, ht.at 5 _ rfl, ht.at 6 _ rfl⟩
            have HS : Hid (∀ w', Grew w2 w' → (w'.cell? ⟨w.heap.size, 0, none⟩ = some (.int .i64 nx) ∧ w'.cell? ⟨w.heap.size, 1, none⟩ = some (.slice A1 n1 c1) ∧ w'.cell? ⟨w.heap.size, 2, none⟩ = some (.slice A2 n2 c2) ∧ w'.cell? ⟨w.heap.size + 1, 0, none⟩ = some (.int .i64 q1) ∧ w'.cell? ⟨w.heap.size + 1, 1, none⟩ = some (.int .i64 q2) ∧ w'.cell? ⟨w.heap.size + 1, 2, none⟩ = some (.int .i64 q3) ∧ w'.cell? ⟨w.heap.size + 1, 3, none⟩ = some (.int .i64 q4) ∧ w'.cell? ⟨w.heap.size + 1, 4, none⟩ = some (.int .i64 q5) ∧ w'.cell? ⟨w.heap.size + 1, 5, none⟩ = some (.int .i64 q6) ∧ w'.cell? ⟨w.heap.size + 1, 6, none⟩ = some (.bool q7))) := fun w' g => HSO.out _ (HX2.out.keep g) (HT2.out.keep g)
            have hs2 : w.heap.size + 3 ≤ w2.heap.size := by have := HZ2.out.lt; omega
            clear x0 x1 x2
            have HS2a := HS.out _ (grew_drew (grew_alloc w2 #[.int .i64 0, .slice none 0 0, .slice none 0 0] 28))
            refine wp_region_noPanic ?_
            refine wp_region_held_drew (S := fun w' => w'.cell? ⟨w.heap.size, 0, none⟩ = some (.int .i64 nx) ∧ w'.cell? ⟨w.heap.size, 1, none⟩ = some (.slice A1 n1 c1) ∧ w'.cell? ⟨w.heap.size, 2, none⟩ = some (.slice A2 n2 c2) ∧ w'.cell? ⟨w.heap.size + 1, 0, none⟩ = some (.int .i64 q1) ∧ w'.cell? ⟨w.heap.size + 1, 1, none⟩ = some (.int .i64 q2) ∧ w'.cell? ⟨w.heap.size + 1, 2, none⟩ = some (.int .i64 q3) ∧ w'.cell? ⟨w.heap.size + 1, 3, none⟩ = some (.int .i64 q4) ∧ w'.cell? ⟨w.heap.size + 1, 4, none⟩ = some (.int .i64 q5) ∧ w'.cell? ⟨w.heap.size + 1, 5, none⟩ = some (.int .i64 q6) ∧ w'.cell? ⟨w.heap.size + 1, 6, none⟩ = some (.bool q7)) (by kernel_rfl) (HS.out _ (grew_drew (grew_refl _))) (fun hHeld => ?_)
            (refine wpAnyH_take (i := 0) (oi := { dst := some 33, op := Op.load 28 (Operand.tmp 2), type := 28, pos := "book.go:68", after := #[], guard := none }) (v := ?_) rfl (by kernel_rfl) (by kernel_rfl) (by kernel_rfl) (fun _ _ _ h => h) (Or.inl ⟨by rfl, ?_⟩) (by assumption) ?_; rotate_left; · (intro w hSw; (try dsimp only at hSw); go_simp; (first | done | with_reducible rfl)))
            try simp only [Act.put, List.setIfInBounds_toArray, List.set_cons_zero, List.set_cons_succ]
            (refine wpAnyH_take (i := 1) (oi := { dst := some 34, op := Op.load 50 (Operand.tmp 3), type := 50, pos := "book.go:68", after := #[], guard := none }) (v := ?_) rfl (by kernel_rfl) (by kernel_rfl) (by kernel_rfl) (fun _ _ _ h => h) (Or.inl ⟨by rfl, ?_⟩) (by assumption) ?_; rotate_left; · (intro w hSw; (try dsimp only at hSw); go_simp; (first | done | with_reducible rfl)))
            try simp only [Act.put, List.setIfInBounds_toArray, List.set_cons_zero, List.set_cons_succ]
            refine wpAnyH_ready (rs := [2, 7]) (by kernel_rfl) (by simp) ?_
            refine (AllReadyH.cons (o := { dst := some 35, op := Op.call { callee := Callee.value (Operand.func 56), args := #[Operand.tmp 34], argTypes := #[50] }, type := 26, pos := "book.go:68", after := #[{ on := 1, ground := Ground.data }], guard := none }) rfl (fun K hK => ?_) (AllReadyH.cons (o := { dst := some 8, op := Op.alloc 28, type := 0, pos := "book.go:68", after := #[], guard := none }) rfl (fun K hK => ?_) AllReadyH.nil))
            · go_simp
              (go_at_call 56; (with_reducible refine (CL _).mono ?_); rintro e w4 ⟨A3, c3, rfl, ho, hg⟩; have HR4 := Lib.hid hg; have HG4 : Hid (Grew w2 w4) := grew_trans (by repeat (first | exact grew_refl _ | refine grew_drew ?_ | refine grew_trans ?_ (grew_alloc _ _ _))) hg; have HS4 := HS.out _ HG4.out; have HS4a := HS.out _ (grew_trans HG4.out (grew_alloc w4 #[.int .i64 0, .slice none 0 0, .slice none 0 0] 28)); have hs4 : w2.heap.size ≤ w4.heap.size := HG4.out.size; have HO4 := Lib.hid (ho.mono (Nat.zero_le _)); clear ho hg)
              refine hK.out _ _ ?_ (fun hHeld => ?_)
              · first
                | exact HS4
              clear hK K
              try simp only [Act.put, List.setIfInBounds_toArray, List.set_cons_zero, List.set_cons_succ]
              refine wpAnyH_ready (rs := [3, 7]) (by kernel_rfl) (by simp) ?_
              refine (AllReadyH.cons (o := { dst := some 36, op := Op.call { callee := Callee.value (Operand.func 52), args := #[Operand.tmp 33, Operand.tmp 35], argTypes := #[28, 26] }, type := 43, pos := "book.go:68", after := #[{ on := 0, ground := Ground.data }, { on := 2, ground := Ground.data }, { on := 2, ground := Ground.chain }], guard := none }) rfl (fun K hK => ?_) (AllReadyH.cons (o := { dst := some 8, op := Op.alloc 28, type := 0, pos := "book.go:68", after := #[], guard := none }) rfl (fun K hK => ?_) AllReadyH.nil))
              · go_simp
                (go_at_call 52; (with_reducible refine (CA _ _ _ (grew_trans HG2.out (grew_trans HG4.out (by repeat (first | exact grew_refl _ | refine grew_drew ?_ | refine grew_trans ?_ (grew_alloc _ _ _))))) (HO4.out.keep (by repeat (first | exact grew_refl _ | refine grew_drew ?_ | refine grew_trans ?_ (grew_alloc _ _ _))))).mono ?_); rintro e w5 ⟨A', A'', c', c'', rfl, hb, hg⟩; have HB5 := Lib.hid hb; have HR5 := Lib.hid hg; have HG5 : Hid (Grew w2 w5) := grew_trans HG4.out (grew_trans (by repeat (first | exact grew_refl _ | refine grew_drew ?_ | refine grew_trans ?_ (grew_alloc _ _ _))) hg); have HS5 := HS.out _ HG5.out; have HS5a := HS.out _ (grew_trans HG5.out (grew_alloc w5 #[.int .i64 0, .slice none 0 0, .slice none 0 0] 28)); have hs5 : w4.heap.size ≤ w5.heap.size := (grew_trans (c := w5) (by repeat (first | exact grew_refl _ | refine grew_drew ?_ | refine grew_trans ?_ (grew_alloc _ _ _))) hg : Grew w4 w5).size; clear hb hg)
                refine hK.out _ _ ?_ (fun hHeld => ?_)
                · first
                  | exact HS5
                clear hK K
                try simp only [Act.put, List.setIfInBounds_toArray, List.set_cons_zero, List.set_cons_succ]
                (refine wpAnyH_take (i := 4) (oi := { dst := some 32, op := Op.move (Operand.tmp 36), type := 43, pos := "book.go:68", after := #[{ on := 3, ground := Ground.data }], guard := none }) (v := ?_) rfl (by kernel_rfl) (by kernel_rfl) (by kernel_rfl) (fun _ _ _ h => h) (Or.inl ⟨by rfl, ?_⟩) (by assumption) ?_; rotate_left; · (intro w hSw; (try dsimp only at hSw); go_simp; (first | done | with_reducible rfl)))
                try simp only [Act.put, List.setIfInBounds_toArray, List.set_cons_zero, List.set_cons_succ]
                (refine wpAnyH_take (i := 5) (oi := { dst := some 37, op := Op.extract (Operand.tmp 32) 0, type := 28, pos := "book.go:68", after := #[{ on := 4, ground := Ground.data }], guard := none }) (v := ?_) rfl (by kernel_rfl) (by kernel_rfl) (by kernel_rfl) (fun _ _ _ h => h) (Or.inl ⟨by rfl, ?_⟩) (by assumption) ?_; rotate_left; · (intro w hSw; (try dsimp only at hSw); go_simp; (first | done | with_reducible rfl)))
                try simp only [Act.put, List.setIfInBounds_toArray, List.set_cons_zero, List.set_cons_succ]
                (refine wpAnyH_take (i := 6) (oi := { dst := some 38, op := Op.extract (Operand.tmp 32) 1, type := 34, pos := "book.go:68", after := #[{ on := 4, ground := Ground.data }, { on := 8, ground := Ground.gcOnly Departure.lateStores }], guard := none }) (v := ?_) rfl (by kernel_rfl) (by kernel_rfl) (by kernel_rfl) (fun _ _ _ h => h) (Or.inl ⟨by rfl, ?_⟩) (by assumption) ?_; rotate_left; · (intro w hSw; (try dsimp only at hSw); go_simp; (first | done | with_reducible rfl)))
                try simp only [Act.put, List.setIfInBounds_toArray, List.set_cons_zero, List.set_cons_succ]
                refine wpAnyH_ready (rs := [7]) (by kernel_rfl) (by simp) ?_
                refine (AllReadyH.cons (o := { dst := some 8, op := Op.alloc 28, type := 0, pos := "book.go:68", after := #[], guard := none }) rfl (fun K hK => ?_) AllReadyH.nil)
                go_simp
                refine hK.out _ _ ?_ (fun hHeld => ?_)
                · first
                  | exact HS2a
                  | exact HS4a
                  | exact HS5a
                clear hK K
                try simp only [Act.put, List.setIfInBounds_toArray, List.set_cons_zero, List.set_cons_succ]
                refine wpAnyH_ready (rs := [8]) (by kernel_rfl) (by simp) ?_
                refine (AllReadyH.cons (o := { dst := none, op := Op.store 28 (Operand.tmp 8) (Operand.tmp 37), type := 0, pos := "book.go:68", after := #[{ on := 7, ground := Ground.data }, { on := 5, ground := Ground.data }, { on := 3, ground := Ground.chain }, { on := 0, ground := Ground.phase }, { on := 1, ground := Ground.phase }, { on := 2, ground := Ground.phase }, { on := 3, ground := Ground.phase }, { on := 4, ground := Ground.phase }, { on := 5, ground := Ground.phase }, { on := 6, ground := Ground.textOnly Departure.lateStores }, { on := 7, ground := Ground.phase }], guard := none }) rfl (fun K hK => ?_) AllReadyH.nil)
                first
                  | (have HEB := (OwnC.new w2 [.int .i64 0, .slice none 0 0, .slice none 0 0] 28 _ rfl).keep (grew_trans (grew_drew (grew_refl _)) (grew_trans HR4.out HR5.out)); have e0 : w5.cell? ⟨w2.heap.size, 0, none⟩ = some (.int .i64 0) := HEB.at 0 _ rfl; have g0 : w5.frozen? ⟨w2.heap.size, 0, none⟩ = false := HEB.fr 0 (by show 0 < 3; omega); have e1 : w5.cell? ⟨w2.heap.size, 1, none⟩ = some (.slice none 0 0) := HEB.at 1 _ rfl; have g1 : w5.frozen? ⟨w2.heap.size, 1, none⟩ = false := HEB.fr 1 (by show 1 < 3; omega); have e2 : w5.cell? ⟨w2.heap.size, 2, none⟩ = some (.slice none 0 0) := HEB.at 2 _ rfl; have g2 : w5.frozen? ⟨w2.heap.size, 2, none⟩ = false := HEB.fr 2 (by show 2 < 3; omega); clear HEB)
                  | (have HEB := (OwnC.new w4 [.int .i64 0, .slice none 0 0, .slice none 0 0] 28 _ rfl).keep HR5.out; have e0 : w5.cell? ⟨w4.heap.size, 0, none⟩ = some (.int .i64 0) := HEB.at 0 _ rfl; have g0 : w5.frozen? ⟨w4.heap.size, 0, none⟩ = false := HEB.fr 0 (by show 0 < 3; omega); have e1 : w5.cell? ⟨w4.heap.size, 1, none⟩ = some (.slice none 0 0) := HEB.at 1 _ rfl; have g1 : w5.frozen? ⟨w4.heap.size, 1, none⟩ = false := HEB.fr 1 (by show 1 < 3; omega); have e2 : w5.cell? ⟨w4.heap.size, 2, none⟩ = some (.slice none 0 0) := HEB.at 2 _ rfl; have g2 : w5.frozen? ⟨w4.heap.size, 2, none⟩ = false := HEB.fr 2 (by show 2 < 3; omega); clear HEB)
                  | skip
                go_simp
                refine hK.out _ _ ?_ (fun hHeld => ?_)
                · first
                  | exact HS.out _ (grew_trans HG5.out (grew_alloc _ _ _))
                  | exact HSO.out _ (OwnC.putO (b2 := w2.heap.size) (by omega) [.int .i64 nx, .slice A' lt.length c', .slice A'' pl.length c''] 0 _ (HX2.out.keep HG5.out)) (OwnC.putO (b2 := w2.heap.size) (by omega) [.int .i64 nx, .slice A' lt.length c', .slice A'' pl.length c''] 0 _ (HT2.out.keep HG5.out))
                  | exact HSO.out _ (OwnC.putO (b2 := w4.heap.size) (by omega) [.int .i64 nx, .slice A' lt.length c', .slice A'' pl.length c''] 0 _ (HX2.out.keep HG5.out)) (OwnC.putO (b2 := w4.heap.size) (by omega) [.int .i64 nx, .slice A' lt.length c', .slice A'' pl.length c''] 0 _ (HT2.out.keep HG5.out))
                clear hK K
                try simp only [Act.put, List.setIfInBounds_toArray, List.set_cons_zero, List.set_cons_succ]
                (refine wpAnyH_take (i := 9) (oi := { dst := some 9, op := Op.assign (Operand.tmp 38), type := 34, pos := "book.go:68", after := #[{ on := 6, ground := Ground.data }, { on := 8, ground := Ground.chain }, { on := 0, ground := Ground.phase }, { on := 1, ground := Ground.phase }, { on := 2, ground := Ground.phase }, { on := 3, ground := Ground.phase }, { on := 4, ground := Ground.phase }, { on := 5, ground := Ground.phase }, { on := 6, ground := Ground.phase }, { on := 7, ground := Ground.phase }, { on := 8, ground := Ground.phase }], guard := none }) (v := ?_) rfl (by kernel_rfl) (by kernel_rfl) (by kernel_rfl) (fun _ _ _ h => h) (Or.inl ⟨by rfl, ?_⟩) (by assumption) ?_; rotate_left; · (intro w hSw; (try dsimp only at hSw); go_simp; (first | done | with_reducible rfl)))
                try simp only [Act.put, List.setIfInBounds_toArray, List.set_cons_zero, List.set_cons_succ]
                refine wpAnyH_done (by kernel_rfl) ?_ _
                clear hHeld
                first
                  | (have hsb : w2.heap.size + 1 ≤ w4.heap.size := (by have h9 := (HR4.out : Below _ _ _).size; simp at h9; omega); have HA : Hid (AtE w ((((w5).setCell ⟨w2.heap.size, 0, none⟩ (.int .i64 nx)).setCell ⟨w2.heap.size, 1, none⟩ (.slice A' lt.length c')).setCell ⟨w2.heap.size, 2, none⟩ (.slice A'' pl.length c'')) (w2.heap.size) (w.heap.size + 1) (w.heap.size + 1 + 1) [.int .i64 nx, .slice A' lt.length c', .slice A'' pl.length c''] [.int .i64 q1, .int .i64 q2, .int .i64 q3, .int .i64 q4, .int .i64 q5, .int .i64 q6, .bool q7] [.int .i64 0, .slice none 0 0, .slice none 0 0] A' A'' lt.length pl.length c' c'' lt pl) := AtE.new (b := (nx, lt, pl)) (vs := [.int .i64 nx, .slice A' lt.length c', .slice A'' pl.length c'']) (((OwnC.new w2 [.int .i64 0, .slice none 0 0, .slice none 0 0] 28 _ rfl).keep (grew_trans (grew_drew (grew_refl _)) (grew_trans HR4.out HR5.out)))) (HT2.out.keep HG5.out) (HZ2.out.keep HG5.out) (HB5.out) (by omega) (fun x hx => by have := (HB5.out.t.block x hx).1; omega) (fun x hx => by have := (HB5.out.p.block x hx).1; omega) (grew_trans HG2.out HG5.out) ⟨by omega, by omega, by omega⟩ rfl; generalize (((w5).setCell ⟨w2.heap.size, 0, none⟩ (.int .i64 nx)).setCell ⟨w2.heap.size, 1, none⟩ (.slice A' lt.length c')).setCell ⟨w2.heap.size, 2, none⟩ (.slice A'' pl.length c'') = wE at *; generalize hE : w2.heap.size = E at *)
                  | (have hsc : w4.heap.size + 1 ≤ (w4.alloc (.cells #[.int .i64 0, .slice none 0 0, .slice none 0 0] 28)).heap.size := (by simp); have HA : Hid (AtE w ((((w5).setCell ⟨w4.heap.size, 0, none⟩ (.int .i64 nx)).setCell ⟨w4.heap.size, 1, none⟩ (.slice A' lt.length c')).setCell ⟨w4.heap.size, 2, none⟩ (.slice A'' pl.length c'')) (w4.heap.size) (w.heap.size + 1) (w.heap.size + 1 + 1) [.int .i64 nx, .slice A' lt.length c', .slice A'' pl.length c''] [.int .i64 q1, .int .i64 q2, .int .i64 q3, .int .i64 q4, .int .i64 q5, .int .i64 q6, .bool q7] [.int .i64 0, .slice none 0 0, .slice none 0 0] A' A'' lt.length pl.length c' c'' lt pl) := AtE.new (b := (nx, lt, pl)) (vs := [.int .i64 nx, .slice A' lt.length c', .slice A'' pl.length c'']) (((OwnC.new w4 [.int .i64 0, .slice none 0 0, .slice none 0 0] 28 _ rfl).keep HR5.out)) (HT2.out.keep HG5.out) (HZ2.out.keep HG5.out) (HB5.out) (by omega) (fun x hx => by have := (HB5.out.t.block x hx).1; omega) (fun x hx => by have := (HB5.out.p.block x hx).1; omega) (grew_trans HG2.out HG5.out) ⟨by omega, by omega, by omega⟩ rfl; generalize (((w5).setCell ⟨w4.heap.size, 0, none⟩ (.int .i64 nx)).setCell ⟨w4.heap.size, 1, none⟩ (.slice A' lt.length c')).setCell ⟨w4.heap.size, 2, none⟩ (.slice A'' pl.length c'') = wE at *; generalize hE : w4.heap.size = E at *)
                  | (have HA : Hid (AtE w (w5.alloc (.cells #[.int .i64 nx, .slice A' lt.length c', .slice A'' pl.length c''] 28)) (w5.heap.size) (w.heap.size + 1) (w.heap.size + 1 + 1) [.int .i64 nx, .slice A' lt.length c', .slice A'' pl.length c''] [.int .i64 q1, .int .i64 q2, .int .i64 q3, .int .i64 q4, .int .i64 q5, .int .i64 q6, .bool q7] [.int .i64 0, .slice none 0 0, .slice none 0 0] A' A'' lt.length pl.length c' c'' lt pl) := AtE.lay (b := (nx, lt, pl)) (vs := [.int .i64 nx, .slice A' lt.length c', .slice A'' pl.length c'']) (OwnC.new w5 [.int .i64 nx, .slice A' lt.length c', .slice A'' pl.length c''] _ _ rfl) ((HT2.out.keep HG5.out).keep (grew_alloc _ _ _)) ((HZ2.out.keep HG5.out).keep (grew_alloc _ _ _)) (HB5.out.keep (grew_alloc _ _ _)) (by omega) (fun x hx => by have := (HB5.out.t.block x hx).2; omega) (fun x hx => by have := (HB5.out.p.block x hx).2; omega) (grew_trans HG2.out (grew_trans HG5.out (grew_alloc _ _ _))) ⟨by omega, by omega, by omega⟩; generalize w5.alloc (.cells #[.int .i64 nx, .slice A' lt.length c', .slice A'' pl.length c''] 28) = wE at *; generalize hE : w5.heap.size = E at *)
                clear HS HSO HB5 HO4 HG5 HR5 HG4 HR4 HS4 HS5
                have e0 : wE.cell? ⟨E, 0, none⟩ = some (.int .i64 nx) := HA.out.ce.at 0 _ rfl
                have g0 : wE.frozen? ⟨E, 0, none⟩ = false := HA.out.ce.fr 0 (by show 0 < 3; omega)
                apply_assumption
                go_upto_region 14 with fail
                have HA1 : Hid (AtE w (wE.setCell ⟨E, 0, none⟩ (.int .i64 (nx + 1))) E (w.heap.size + 1) (w.heap.size + 1 + 1) [.int .i64 (nx + 1), .slice A' lt.length c', .slice A'' pl.length c''] [.int .i64 q1, .int .i64 q2, .int .i64 q3, .int .i64 q4, .int .i64 q5, .int .i64 q6, .bool q7] [.int .i64 0, .slice none 0 0, .slice none 0 0] A' A'' lt.length pl.length c' c'' lt pl) := HA.out.setE 0 (.int .i64 (nx + 1)) (by show 0 < 3; omega)
                clear e0 g0 HA
                generalize wE.setCell ⟨E, 0, none⟩ (.int .i64 (nx + 1)) = wF at *
                have e0 : wF.cell? ⟨E, 0, none⟩ = some (.int .i64 (nx + 1)) := HA1.out.ce.at 0 _ rfl
                have t0 : wF.cell? ⟨w.heap.size + 1, 0, none⟩ = some (.int .i64 q1) := HA1.out.co.at 0 _ rfl
                have t6 : wF.cell? ⟨w.heap.size + 1, 6, none⟩ = some (.bool q7) := HA1.out.co.at 6 _ rfl
                have u0 : wF.frozen? ⟨w.heap.size + 1, 0, none⟩ = false := HA1.out.co.fr 0 (by show 0 < 7; omega)
                have u6 : wF.frozen? ⟨w.heap.size + 1, 6, none⟩ = false := HA1.out.co.fr 6 (by show 6 < 7; omega)
                go_upto_region 15 with fail
                have HA2 : Hid (AtE w ((wF.setCell ⟨w.heap.size + 1, 0, none⟩ (.int .i64 (nx + 1))).setCell ⟨w.heap.size + 1, 6, none⟩ (.bool false)) E (w.heap.size + 1) (w.heap.size + 1 + 1) [.int .i64 (nx + 1), .slice A' lt.length c', .slice A'' pl.length c''] [.int .i64 (nx + 1), .int .i64 q2, .int .i64 q3, .int .i64 q4, .int .i64 q5, .int .i64 q6, .bool false] [.int .i64 0, .slice none 0 0, .slice none 0 0] A' A'' lt.length pl.length c' c'' lt pl) := (HA1.out.setO 0 (.int .i64 (nx + 1)) (by show 0 < 7; omega)).setO 6 (.bool false) (by show 6 < 7; omega)
                clear e0 t0 t6 u0 u6 HA1
                generalize (wF.setCell ⟨w.heap.size + 1, 0, none⟩ (.int .i64 (nx + 1))).setCell ⟨w.heap.size + 1, 6, none⟩ (.bool false) = wG at *
                have e1 : wG.cell? ⟨E, 1, none⟩ = some (.slice A' lt.length c') := HA2.out.ce.at 1 _ rfl
                have t0 : wG.cell? ⟨w.heap.size + 1, 0, none⟩ = some (.int .i64 (nx + 1)) := HA2.out.co.at 0 _ rfl
                have t1 : wG.cell? ⟨w.heap.size + 1, 1, none⟩ = some (.int .i64 q2) := HA2.out.co.at 1 _ rfl
                have t2 : wG.cell? ⟨w.heap.size + 1, 2, none⟩ = some (.int .i64 q3) := HA2.out.co.at 2 _ rfl
                have t3 : wG.cell? ⟨w.heap.size + 1, 3, none⟩ = some (.int .i64 q4) := HA2.out.co.at 3 _ rfl
                have t4 : wG.cell? ⟨w.heap.size + 1, 4, none⟩ = some (.int .i64 q5) := HA2.out.co.at 4 _ rfl
                have t5 : wG.cell? ⟨w.heap.size + 1, 5, none⟩ = some (.int .i64 q6) := HA2.out.co.at 5 _ rfl
                have t6 : wG.cell? ⟨w.heap.size + 1, 6, none⟩ = some (.bool false) := HA2.out.co.at 6 _ rfl
                have HSG : Hid (w.heap.size + 1 + 1 + 1 ≤ wG.heap.size) := by have := HA2.out.cz.lt; show _ ≤ _; omega
                go_upto_region 16 with (at_builtin; refine (wpList_twoG (E := enTr) (F := enPo) (s := 50) (t := 31) (base := w.heap.size + 1 + 1 + 1) rfl _ _ 25 (vTr tr0) 56 rfl Tryz.underlying25 info_tr rfl (HA2.out.rows.keep (grew_alloc _ _ _)) rfl _ ((nx + 1, q2, q3, q4, q5, q6), false) rfl (RowE.one1 enTr _ _ _ _ _ rfl rfl) (by unfold maxLen; omega) (by omega) (Nat.le_trans HSG.out (by simp)) ?_); intro A7 c7 w7 hr hg hA; have HA3 := Lib.hid ((HA2.out.keep (grew_alloc _ _ _)).app hr hg hA); have e1b : w7.cell? ⟨E, 1, none⟩ = some (.slice A' lt.length c') := HA3.out.ce.at 1 _ rfl; have g1b : w7.frozen? ⟨E, 1, none⟩ = false := HA3.out.ce.fr 1 (by show 1 < 3; omega); clear hr hg hA e1 t0 t1 t2 t3 t4 t5 t6)
                have HA4 : Hid (AtE w (w7.setCell ⟨E, 1, none⟩ (.slice A7 (lt.length + 1) c7)) E (w.heap.size + 1) (w.heap.size + 1 + 1) [.int .i64 (nx + 1), .slice A7 (lt.length + 1) c7, .slice A'' pl.length c''] [.int .i64 (nx + 1), .int .i64 q2, .int .i64 q3, .int .i64 q4, .int .i64 q5, .int .i64 q6, .bool false] [.int .i64 0, .slice none 0 0, .slice none 0 0] A7 A'' (lt.length + 1) pl.length c7 c'' (lt ++ [((nx + 1, q2, q3, q4, q5, q6), false)]) pl) := HA3.out.setE 1 (.slice A7 (lt.length + 1) c7) (by show 1 < 3; omega)
                clear e1b g1b HA3 HA2
                generalize w7.setCell ⟨E, 1, none⟩ (.slice A7 (lt.length + 1) c7) = wH at *
                have HSE : Hid (∀ w' zl, AtE w (w') E (w.heap.size + 1) (w.heap.size + 1 + 1) [.int .i64 (nx + 1), .slice A7 (lt.length + 1) c7, .slice A'' pl.length c''] [.int .i64 (nx + 1), .int .i64 q2, .int .i64 q3, .int .i64 q4, .int .i64 q5, .int .i64 q6, .bool false] zl A7 A'' (lt.length + 1) pl.length c7 c'' (lt ++ [((nx + 1, q2, q3, q4, q5, q6), false)]) pl → (w'.cell? ⟨E, 0, none⟩ = some (.int .i64 (nx + 1)) ∧ w'.cell? ⟨E, 1, none⟩ = some (.slice A7 (lt.length + 1) c7) ∧ w'.cell? ⟨E, 2, none⟩ = some (.slice A'' pl.length c'') ∧ w'.cell? ⟨w.heap.size + 1, 0, none⟩ = some (.int .i64 (nx + 1)))) := fun w' zl h => ⟨h.ce.at 0 _ rfl, h.ce.at 1 _ rfl, h.ce.at 2 _ rfl, h.co.at 0 _ rfl⟩
                have HA5 : Hid (AtE w (putC wH.drew (w.heap.size + 1 + 1) 0 [.int .i64 (nx + 1), .slice A7 (lt.length + 1) c7, .slice A'' pl.length c'']) E (w.heap.size + 1) (w.heap.size + 1 + 1) [.int .i64 (nx + 1), .slice A7 (lt.length + 1) c7, .slice A'' pl.length c''] [.int .i64 (nx + 1), .int .i64 q2, .int .i64 q3, .int .i64 q4, .int .i64 q5, .int .i64 q6, .bool false] [.int .i64 (nx + 1), .slice A7 (lt.length + 1) c7, .slice A'' pl.length c''] A7 A'' (lt.length + 1) pl.length c7 c'' (lt ++ [((nx + 1, q2, q3, q4, q5, q6), false)]) pl) := (HA4.out.keep (grew_drew (grew_refl _))).putZ [.int .i64 (nx + 1), .slice A7 (lt.length + 1) c7, .slice A'' pl.length c''] rfl
                have y0 : wH.cell? ⟨w.heap.size + 1 + 1, 0, none⟩ = some (.int .i64 0) := HA4.out.cz.at 0 _ rfl
                have f0 : wH.frozen? ⟨w.heap.size + 1 + 1, 0, none⟩ = false := HA4.out.cz.fr 0 (by show 0 < 3; omega)
                have y1 : wH.cell? ⟨w.heap.size + 1 + 1, 1, none⟩ = some (.slice none 0 0) := HA4.out.cz.at 1 _ rfl
                have f1 : wH.frozen? ⟨w.heap.size + 1 + 1, 1, none⟩ = false := HA4.out.cz.fr 1 (by show 1 < 3; omega)
                have y2 : wH.cell? ⟨w.heap.size + 1 + 1, 2, none⟩ = some (.slice none 0 0) := HA4.out.cz.at 2 _ rfl
                have f2 : wH.frozen? ⟨w.heap.size + 1 + 1, 2, none⟩ = false := HA4.out.cz.fr 2 (by show 2 < 3; omega)
                go_region_held3 (fun w' => w'.cell? ⟨E, 0, none⟩ = some (.int .i64 (nx + 1)) ∧ w'.cell? ⟨E, 1, none⟩ = some (.slice A7 (lt.length + 1) c7) ∧ w'.cell? ⟨E, 2, none⟩ = some (.slice A'' pl.length c'') ∧ w'.cell? ⟨w.heap.size + 1, 0, none⟩ = some (.int .i64 (nx + 1)))
                  (first | exact HSE.out _ _ HA5.out | exact HSE.out _ _ (HA4.out.keep (grew_drew (grew_refl _))) | (trace_state; fail))
                  (fail)
                have HQ : Hid (OwnB (putC wH.drew (w.heap.size + 1 + 1) 0 [.int .i64 (nx + 1), .slice A7 (lt.length + 1) c7, .slice A'' pl.length c'']) w.heap.size (nx + 1, lt ++ [((nx + 1, q2, q3, q4, q5, q6), false)], pl) A7 A'' c7 c'') := HA5.out.own (by simp) rfl (nx + 1)
                have HGQ := Lib.hid HA5.out.gr
                have z0 : (putC wH.drew (w.heap.size + 1 + 1) 0 [.int .i64 (nx + 1), .slice A7 (lt.length + 1) c7, .slice A'' pl.length c'']).cell? ⟨w.heap.size + 1 + 1, 0, none⟩ = _ := HA5.out.cz.at 0 _ rfl
                have z1 : (putC wH.drew (w.heap.size + 1 + 1) 0 [.int .i64 (nx + 1), .slice A7 (lt.length + 1) c7, .slice A'' pl.length c'']).cell? ⟨w.heap.size + 1 + 1, 1, none⟩ = _ := HA5.out.cz.at 1 _ rfl
                have z2 : (putC wH.drew (w.heap.size + 1 + 1) 0 [.int .i64 (nx + 1), .slice A7 (lt.length + 1) c7, .slice A'' pl.length c'']).cell? ⟨w.heap.size + 1 + 1, 2, none⟩ = _ := HA5.out.cz.at 2 _ rfl
                change Exit.then _ _ _ _ (putC wH.drew (w.heap.size + 1 + 1) 0 [.int .i64 (nx + 1), .slice A7 (lt.length + 1) c7, .slice A'' pl.length c''])
                clear y0 y1 y2 f0 f1 f2 HA4 HA5 HSE
                generalize putC wH.drew (w.heap.size + 1 + 1) 0 [.int .i64 (nx + 1), .slice A7 (lt.length + 1) c7, .slice A'' pl.length c''] = w9 at *
                apply_assumption
                go_wp2
                refine bodyPost_ret (v := .tuple #[.agg #[.int .i64 (nx + 1), .slice A7 (lt.length + 1) c7, .slice A'' pl.length c''], .int .i64 (nx + 1), .int .i64 0]) (by simp [results, Tryz.results30, go_sem, z0, z1, z2]) rfl ?_
                rw [HAS.out] at HYES
                exact HYES.out _ _ _ _ _ HQ.out HGQ.out
              · go_simp
                refine hK.out _ _ ?_ (fun hHeld => ?_)
                · first
                  | exact HS2a
                  | exact HS4a
                  | exact HS5a
                clear hK K
                try simp only [Act.put, List.setIfInBounds_toArray, List.set_cons_zero, List.set_cons_succ]
                refine wpAnyH_ready (rs := [3]) (by kernel_rfl) (by simp) ?_
                refine (AllReadyH.cons (o := { dst := some 36, op := Op.call { callee := Callee.value (Operand.func 52), args := #[Operand.tmp 33, Operand.tmp 35], argTypes := #[28, 26] }, type := 43, pos := "book.go:68", after := #[{ on := 0, ground := Ground.data }, { on := 2, ground := Ground.data }, { on := 2, ground := Ground.chain }], guard := none }) rfl (fun K hK => ?_) AllReadyH.nil)
                go_simp
                (go_at_call 52; (with_reducible refine (CA _ _ _ (grew_trans HG2.out (grew_trans HG4.out (by repeat (first | exact grew_refl _ | refine grew_drew ?_ | refine grew_trans ?_ (grew_alloc _ _ _))))) (HO4.out.keep (by repeat (first | exact grew_refl _ | refine grew_drew ?_ | refine grew_trans ?_ (grew_alloc _ _ _))))).mono ?_); rintro e w5 ⟨A', A'', c', c'', rfl, hb, hg⟩; have HB5 := Lib.hid hb; have HR5 := Lib.hid hg; have HG5 : Hid (Grew w2 w5) := grew_trans HG4.out (grew_trans (by repeat (first | exact grew_refl _ | refine grew_drew ?_ | refine grew_trans ?_ (grew_alloc _ _ _))) hg); have HS5 := HS.out _ HG5.out; have HS5a := HS.out _ (grew_trans HG5.out (grew_alloc w5 #[.int .i64 0, .slice none 0 0, .slice none 0 0] 28)); have hs5 : w4.heap.size ≤ w5.heap.size := (grew_trans (c := w5) (by repeat (first | exact grew_refl _ | refine grew_drew ?_ | refine grew_trans ?_ (grew_alloc _ _ _))) hg : Grew w4 w5).size; clear hb hg)
                refine hK.out _ _ ?_ (fun hHeld => ?_)
                · first
                  | exact HS5
                clear hK K
                try simp only [Act.put, List.setIfInBounds_toArray, List.set_cons_zero, List.set_cons_succ]
                (refine wpAnyH_take (i := 4) (oi := { dst := some 32, op := Op.move (Operand.tmp 36), type := 43, pos := "book.go:68", after := #[{ on := 3, ground := Ground.data }], guard := none }) (v := ?_) rfl (by kernel_rfl) (by kernel_rfl) (by kernel_rfl) (fun _ _ _ h => h) (Or.inl ⟨by rfl, ?_⟩) (by assumption) ?_; rotate_left; · (intro w hSw; (try dsimp only at hSw); go_simp; (first | done | with_reducible rfl)))
                try simp only [Act.put, List.setIfInBounds_toArray, List.set_cons_zero, List.set_cons_succ]
                (refine wpAnyH_take (i := 5) (oi := { dst := some 37, op := Op.extract (Operand.tmp 32) 0, type := 28, pos := "book.go:68", after := #[{ on := 4, ground := Ground.data }], guard := none }) (v := ?_) rfl (by kernel_rfl) (by kernel_rfl) (by kernel_rfl) (fun _ _ _ h => h) (Or.inl ⟨by rfl, ?_⟩) (by assumption) ?_; rotate_left; · (intro w hSw; (try dsimp only at hSw); go_simp; (first | done | with_reducible rfl)))
                try simp only [Act.put, List.setIfInBounds_toArray, List.set_cons_zero, List.set_cons_succ]
                (refine wpAnyH_take (i := 6) (oi := { dst := some 38, op := Op.extract (Operand.tmp 32) 1, type := 34, pos := "book.go:68", after := #[{ on := 4, ground := Ground.data }, { on := 8, ground := Ground.gcOnly Departure.lateStores }], guard := none }) (v := ?_) rfl (by kernel_rfl) (by kernel_rfl) (by kernel_rfl) (fun _ _ _ h => h) (Or.inl ⟨by rfl, ?_⟩) (by assumption) ?_; rotate_left; · (intro w hSw; (try dsimp only at hSw); go_simp; (first | done | with_reducible rfl)))
                try simp only [Act.put, List.setIfInBounds_toArray, List.set_cons_zero, List.set_cons_succ]
                refine wpAnyH_ready (rs := [8]) (by kernel_rfl) (by simp) ?_
                refine (AllReadyH.cons (o := { dst := none, op := Op.store 28 (Operand.tmp 8) (Operand.tmp 37), type := 0, pos := "book.go:68", after := #[{ on := 7, ground := Ground.data }, { on := 5, ground := Ground.data }, { on := 3, ground := Ground.chain }, { on := 0, ground := Ground.phase }, { on := 1, ground := Ground.phase }, { on := 2, ground := Ground.phase }, { on := 3, ground := Ground.phase }, { on := 4, ground := Ground.phase }, { on := 5, ground := Ground.phase }, { on := 6, ground := Ground.textOnly Departure.lateStores }, { on := 7, ground := Ground.phase }], guard := none }) rfl (fun K hK => ?_) AllReadyH.nil)
                first
                  | (have HEB := (OwnC.new w2 [.int .i64 0, .slice none 0 0, .slice none 0 0] 28 _ rfl).keep (grew_trans (grew_drew (grew_refl _)) (grew_trans HR4.out HR5.out)); have e0 : w5.cell? ⟨w2.heap.size, 0, none⟩ = some (.int .i64 0) := HEB.at 0 _ rfl; have g0 : w5.frozen? ⟨w2.heap.size, 0, none⟩ = false := HEB.fr 0 (by show 0 < 3; omega); have e1 : w5.cell? ⟨w2.heap.size, 1, none⟩ = some (.slice none 0 0) := HEB.at 1 _ rfl; have g1 : w5.frozen? ⟨w2.heap.size, 1, none⟩ = false := HEB.fr 1 (by show 1 < 3; omega); have e2 : w5.cell? ⟨w2.heap.size, 2, none⟩ = some (.slice none 0 0) := HEB.at 2 _ rfl; have g2 : w5.frozen? ⟨w2.heap.size, 2, none⟩ = false := HEB.fr 2 (by show 2 < 3; omega); clear HEB)
                  | (have HEB := (OwnC.new w4 [.int .i64 0, .slice none 0 0, .slice none 0 0] 28 _ rfl).keep HR5.out; have e0 : w5.cell? ⟨w4.heap.size, 0, none⟩ = some (.int .i64 0) := HEB.at 0 _ rfl; have g0 : w5.frozen? ⟨w4.heap.size, 0, none⟩ = false := HEB.fr 0 (by show 0 < 3; omega); have e1 : w5.cell? ⟨w4.heap.size, 1, none⟩ = some (.slice none 0 0) := HEB.at 1 _ rfl; have g1 : w5.frozen? ⟨w4.heap.size, 1, none⟩ = false := HEB.fr 1 (by show 1 < 3; omega); have e2 : w5.cell? ⟨w4.heap.size, 2, none⟩ = some (.slice none 0 0) := HEB.at 2 _ rfl; have g2 : w5.frozen? ⟨w4.heap.size, 2, none⟩ = false := HEB.fr 2 (by show 2 < 3; omega); clear HEB)
                  | skip
                go_simp
                refine hK.out _ _ ?_ (fun hHeld => ?_)
                · first
                  | exact HS.out _ (grew_trans HG5.out (grew_alloc _ _ _))
                  | exact HSO.out _ (OwnC.putO (b2 := w2.heap.size) (by omega) [.int .i64 nx, .slice A' lt.length c', .slice A'' pl.length c''] 0 _ (HX2.out.keep HG5.out)) (OwnC.putO (b2 := w2.heap.size) (by omega) [.int .i64 nx, .slice A' lt.length c', .slice A'' pl.length c''] 0 _ (HT2.out.keep HG5.out))
                  | exact HSO.out _ (OwnC.putO (b2 := w4.heap.size) (by omega) [.int .i64 nx, .slice A' lt.length c', .slice A'' pl.length c''] 0 _ (HX2.out.keep HG5.out)) (OwnC.putO (b2 := w4.heap.size) (by omega) [.int .i64 nx, .slice A' lt.length c', .slice A'' pl.length c''] 0 _ (HT2.out.keep HG5.out))
                clear hK K
                try simp only [Act.put, List.setIfInBounds_toArray, List.set_cons_zero, List.set_cons_succ]
                (refine wpAnyH_take (i := 9) (oi := { dst := some 9, op := Op.assign (Operand.tmp 38), type := 34, pos := "book.go:68", after := #[{ on := 6, ground := Ground.data }, { on := 8, ground := Ground.chain }, { on := 0, ground := Ground.phase }, { on := 1, ground := Ground.phase }, { on := 2, ground := Ground.phase }, { on := 3, ground := Ground.phase }, { on := 4, ground := Ground.phase }, { on := 5, ground := Ground.phase }, { on := 6, ground := Ground.phase }, { on := 7, ground := Ground.phase }, { on := 8, ground := Ground.phase }], guard := none }) (v := ?_) rfl (by kernel_rfl) (by kernel_rfl) (by kernel_rfl) (fun _ _ _ h => h) (Or.inl ⟨by rfl, ?_⟩) (by assumption) ?_; rotate_left; · (intro w hSw; (try dsimp only at hSw); go_simp; (first | done | with_reducible rfl)))
                try simp only [Act.put, List.setIfInBounds_toArray, List.set_cons_zero, List.set_cons_succ]
                refine wpAnyH_done (by kernel_rfl) ?_ _
                clear hHeld
                first
                  | (have hsb : w2.heap.size + 1 ≤ w4.heap.size := (by have h9 := (HR4.out : Below _ _ _).size; simp at h9; omega); have HA : Hid (AtE w ((((w5).setCell ⟨w2.heap.size, 0, none⟩ (.int .i64 nx)).setCell ⟨w2.heap.size, 1, none⟩ (.slice A' lt.length c')).setCell ⟨w2.heap.size, 2, none⟩ (.slice A'' pl.length c'')) (w2.heap.size) (w.heap.size + 1) (w.heap.size + 1 + 1) [.int .i64 nx, .slice A' lt.length c', .slice A'' pl.length c''] [.int .i64 q1, .int .i64 q2, .int .i64 q3, .int .i64 q4, .int .i64 q5, .int .i64 q6, .bool q7] [.int .i64 0, .slice none 0 0, .slice none 0 0] A' A'' lt.length pl.length c' c'' lt pl) := AtE.new (b := (nx, lt, pl)) (vs := [.int .i64 nx, .slice A' lt.length c', .slice A'' pl.length c'']) (((OwnC.new w2 [.int .i64 0, .slice none 0 0, .slice none 0 0] 28 _ rfl).keep (grew_trans (grew_drew (grew_refl _)) (grew_trans HR4.out HR5.out)))) (HT2.out.keep HG5.out) (HZ2.out.keep HG5.out) (HB5.out) (by omega) (fun x hx => by have := (HB5.out.t.block x hx).1; omega) (fun x hx => by have := (HB5.out.p.block x hx).1; omega) (grew_trans HG2.out HG5.out) ⟨by omega, by omega, by omega⟩ rfl; generalize (((w5).setCell ⟨w2.heap.size, 0, none⟩ (.int .i64 nx)).setCell ⟨w2.heap.size, 1, none⟩ (.slice A' lt.length c')).setCell ⟨w2.heap.size, 2, none⟩ (.slice A'' pl.length c'') = wE at *; generalize hE : w2.heap.size = E at *)
                  | (have hsc : w4.heap.size + 1 ≤ (w4.alloc (.cells #[.int .i64 0, .slice none 0 0, .slice none 0 0] 28)).heap.size := (by simp); have HA : Hid (AtE w ((((w5).setCell ⟨w4.heap.size, 0, none⟩ (.int .i64 nx)).setCell ⟨w4.heap.size, 1, none⟩ (.slice A' lt.length c')).setCell ⟨w4.heap.size, 2, none⟩ (.slice A'' pl.length c'')) (w4.heap.size) (w.heap.size + 1) (w.heap.size + 1 + 1) [.int .i64 nx, .slice A' lt.length c', .slice A'' pl.length c''] [.int .i64 q1, .int .i64 q2, .int .i64 q3, .int .i64 q4, .int .i64 q5, .int .i64 q6, .bool q7] [.int .i64 0, .slice none 0 0, .slice none 0 0] A' A'' lt.length pl.length c' c'' lt pl) := AtE.new (b := (nx, lt, pl)) (vs := [.int .i64 nx, .slice A' lt.length c', .slice A'' pl.length c'']) (((OwnC.new w4 [.int .i64 0, .slice none 0 0, .slice none 0 0] 28 _ rfl).keep HR5.out)) (HT2.out.keep HG5.out) (HZ2.out.keep HG5.out) (HB5.out) (by omega) (fun x hx => by have := (HB5.out.t.block x hx).1; omega) (fun x hx => by have := (HB5.out.p.block x hx).1; omega) (grew_trans HG2.out HG5.out) ⟨by omega, by omega, by omega⟩ rfl; generalize (((w5).setCell ⟨w4.heap.size, 0, none⟩ (.int .i64 nx)).setCell ⟨w4.heap.size, 1, none⟩ (.slice A' lt.length c')).setCell ⟨w4.heap.size, 2, none⟩ (.slice A'' pl.length c'') = wE at *; generalize hE : w4.heap.size = E at *)
                  | (have HA : Hid (AtE w (w5.alloc (.cells #[.int .i64 nx, .slice A' lt.length c', .slice A'' pl.length c''] 28)) (w5.heap.size) (w.heap.size + 1) (w.heap.size + 1 + 1) [.int .i64 nx, .slice A' lt.length c', .slice A'' pl.length c''] [.int .i64 q1, .int .i64 q2, .int .i64 q3, .int .i64 q4, .int .i64 q5, .int .i64 q6, .bool q7] [.int .i64 0, .slice none 0 0, .slice none 0 0] A' A'' lt.length pl.length c' c'' lt pl) := AtE.lay (b := (nx, lt, pl)) (vs := [.int .i64 nx, .slice A' lt.length c', .slice A'' pl.length c'']) (OwnC.new w5 [.int .i64 nx, .slice A' lt.length c', .slice A'' pl.length c''] _ _ rfl) ((HT2.out.keep HG5.out).keep (grew_alloc _ _ _)) ((HZ2.out.keep HG5.out).keep (grew_alloc _ _ _)) (HB5.out.keep (grew_alloc _ _ _)) (by omega) (fun x hx => by have := (HB5.out.t.block x hx).2; omega) (fun x hx => by have := (HB5.out.p.block x hx).2; omega) (grew_trans HG2.out (grew_trans HG5.out (grew_alloc _ _ _))) ⟨by omega, by omega, by omega⟩; generalize w5.alloc (.cells #[.int .i64 nx, .slice A' lt.length c', .slice A'' pl.length c''] 28) = wE at *; generalize hE : w5.heap.size = E at *)
                clear HS HSO HB5 HO4 HG5 HR5 HG4 HR4 HS4 HS5
                have e0 : wE.cell? ⟨E, 0, none⟩ = some (.int .i64 nx) := HA.out.ce.at 0 _ rfl
                have g0 : wE.frozen? ⟨E, 0, none⟩ = false := HA.out.ce.fr 0 (by show 0 < 3; omega)
                apply_assumption
                go_upto_region 14 with fail
                have HA1 : Hid (AtE w (wE.setCell ⟨E, 0, none⟩ (.int .i64 (nx + 1))) E (w.heap.size + 1) (w.heap.size + 1 + 1) [.int .i64 (nx + 1), .slice A' lt.length c', .slice A'' pl.length c''] [.int .i64 q1, .int .i64 q2, .int .i64 q3, .int .i64 q4, .int .i64 q5, .int .i64 q6, .bool q7] [.int .i64 0, .slice none 0 0, .slice none 0 0] A' A'' lt.length pl.length c' c'' lt pl) := HA.out.setE 0 (.int .i64 (nx + 1)) (by show 0 < 3; omega)
                clear e0 g0 HA
                generalize wE.setCell ⟨E, 0, none⟩ (.int .i64 (nx + 1)) = wF at *
                have e0 : wF.cell? ⟨E, 0, none⟩ = some (.int .i64 (nx + 1)) := HA1.out.ce.at 0 _ rfl
                have t0 : wF.cell? ⟨w.heap.size + 1, 0, none⟩ = some (.int .i64 q1) := HA1.out.co.at 0 _ rfl
                have t6 : wF.cell? ⟨w.heap.size + 1, 6, none⟩ = some (.bool q7) := HA1.out.co.at 6 _ rfl
                have u0 : wF.frozen? ⟨w.heap.size + 1, 0, none⟩ = false := HA1.out.co.fr 0 (by show 0 < 7; omega)
                have u6 : wF.frozen? ⟨w.heap.size + 1, 6, none⟩ = false := HA1.out.co.fr 6 (by show 6 < 7; omega)
                go_upto_region 15 with fail
                have HA2 : Hid (AtE w ((wF.setCell ⟨w.heap.size + 1, 0, none⟩ (.int .i64 (nx + 1))).setCell ⟨w.heap.size + 1, 6, none⟩ (.bool false)) E (w.heap.size + 1) (w.heap.size + 1 + 1) [.int .i64 (nx + 1), .slice A' lt.length c', .slice A'' pl.length c''] [.int .i64 (nx + 1), .int .i64 q2, .int .i64 q3, .int .i64 q4, .int .i64 q5, .int .i64 q6, .bool false] [.int .i64 0, .slice none 0 0, .slice none 0 0] A' A'' lt.length pl.length c' c'' lt pl) := (HA1.out.setO 0 (.int .i64 (nx + 1)) (by show 0 < 7; omega)).setO 6 (.bool false) (by show 6 < 7; omega)
                clear e0 t0 t6 u0 u6 HA1
                generalize (wF.setCell ⟨w.heap.size + 1, 0, none⟩ (.int .i64 (nx + 1))).setCell ⟨w.heap.size + 1, 6, none⟩ (.bool false) = wG at *
                have e1 : wG.cell? ⟨E, 1, none⟩ = some (.slice A' lt.length c') := HA2.out.ce.at 1 _ rfl
                have t0 : wG.cell? ⟨w.heap.size + 1, 0, none⟩ = some (.int .i64 (nx + 1)) := HA2.out.co.at 0 _ rfl
                have t1 : wG.cell? ⟨w.heap.size + 1, 1, none⟩ = some (.int .i64 q2) := HA2.out.co.at 1 _ rfl
                have t2 : wG.cell? ⟨w.heap.size + 1, 2, none⟩ = some (.int .i64 q3) := HA2.out.co.at 2 _ rfl
                have t3 : wG.cell? ⟨w.heap.size + 1, 3, none⟩ = some (.int .i64 q4) := HA2.out.co.at 3 _ rfl
                have t4 : wG.cell? ⟨w.heap.size + 1, 4, none⟩ = some (.int .i64 q5) := HA2.out.co.at 4 _ rfl
                have t5 : wG.cell? ⟨w.heap.size + 1, 5, none⟩ = some (.int .i64 q6) := HA2.out.co.at 5 _ rfl
                have t6 : wG.cell? ⟨w.heap.size + 1, 6, none⟩ = some (.bool false) := HA2.out.co.at 6 _ rfl
                have HSG : Hid (w.heap.size + 1 + 1 + 1 ≤ wG.heap.size) := by have := HA2.out.cz.lt; show _ ≤ _; omega
                go_upto_region 16 with (at_builtin; refine (wpList_twoG (E := enTr) (F := enPo) (s := 50) (t := 31) (base := w.heap.size + 1 + 1 + 1) rfl _ _ 25 (vTr tr0) 56 rfl Tryz.underlying25 info_tr rfl (HA2.out.rows.keep (grew_alloc _ _ _)) rfl _ ((nx + 1, q2, q3, q4, q5, q6), false) rfl (RowE.one1 enTr _ _ _ _ _ rfl rfl) (by unfold maxLen; omega) (by omega) (Nat.le_trans HSG.out (by simp)) ?_); intro A7 c7 w7 hr hg hA; have HA3 := Lib.hid ((HA2.out.keep (grew_alloc _ _ _)).app hr hg hA); have e1b : w7.cell? ⟨E, 1, none⟩ = some (.slice A' lt.length c') := HA3.out.ce.at 1 _ rfl; have g1b : w7.frozen? ⟨E, 1, none⟩ = false := HA3.out.ce.fr 1 (by show 1 < 3; omega); clear hr hg hA e1 t0 t1 t2 t3 t4 t5 t6)
                have HA4 : Hid (AtE w (w7.setCell ⟨E, 1, none⟩ (.slice A7 (lt.length + 1) c7)) E (w.heap.size + 1) (w.heap.size + 1 + 1) [.int .i64 (nx + 1), .slice A7 (lt.length + 1) c7, .slice A'' pl.length c''] [.int .i64 (nx + 1), .int .i64 q2, .int .i64 q3, .int .i64 q4, .int .i64 q5, .int .i64 q6, .bool false] [.int .i64 0, .slice none 0 0, .slice none 0 0] A7 A'' (lt.length + 1) pl.length c7 c'' (lt ++ [((nx + 1, q2, q3, q4, q5, q6), false)]) pl) := HA3.out.setE 1 (.slice A7 (lt.length + 1) c7) (by show 1 < 3; omega)
                clear e1b g1b HA3 HA2
                generalize w7.setCell ⟨E, 1, none⟩ (.slice A7 (lt.length + 1) c7) = wH at *
                have HSE : Hid (∀ w' zl, AtE w (w') E (w.heap.size + 1) (w.heap.size + 1 + 1) [.int .i64 (nx + 1), .slice A7 (lt.length + 1) c7, .slice A'' pl.length c''] [.int .i64 (nx + 1), .int .i64 q2, .int .i64 q3, .int .i64 q4, .int .i64 q5, .int .i64 q6, .bool false] zl A7 A'' (lt.length + 1) pl.length c7 c'' (lt ++ [((nx + 1, q2, q3, q4, q5, q6), false)]) pl → (w'.cell? ⟨E, 0, none⟩ = some (.int .i64 (nx + 1)) ∧ w'.cell? ⟨E, 1, none⟩ = some (.slice A7 (lt.length + 1) c7) ∧ w'.cell? ⟨E, 2, none⟩ = some (.slice A'' pl.length c'') ∧ w'.cell? ⟨w.heap.size + 1, 0, none⟩ = some (.int .i64 (nx + 1)))) := fun w' zl h => ⟨h.ce.at 0 _ rfl, h.ce.at 1 _ rfl, h.ce.at 2 _ rfl, h.co.at 0 _ rfl⟩
                have HA5 : Hid (AtE w (putC wH.drew (w.heap.size + 1 + 1) 0 [.int .i64 (nx + 1), .slice A7 (lt.length + 1) c7, .slice A'' pl.length c'']) E (w.heap.size + 1) (w.heap.size + 1 + 1) [.int .i64 (nx + 1), .slice A7 (lt.length + 1) c7, .slice A'' pl.length c''] [.int .i64 (nx + 1), .int .i64 q2, .int .i64 q3, .int .i64 q4, .int .i64 q5, .int .i64 q6, .bool false] [.int .i64 (nx + 1), .slice A7 (lt.length + 1) c7, .slice A'' pl.length c''] A7 A'' (lt.length + 1) pl.length c7 c'' (lt ++ [((nx + 1, q2, q3, q4, q5, q6), false)]) pl) := (HA4.out.keep (grew_drew (grew_refl _))).putZ [.int .i64 (nx + 1), .slice A7 (lt.length + 1) c7, .slice A'' pl.length c''] rfl
                have y0 : wH.cell? ⟨w.heap.size + 1 + 1, 0, none⟩ = some (.int .i64 0) := HA4.out.cz.at 0 _ rfl
                have f0 : wH.frozen? ⟨w.heap.size + 1 + 1, 0, none⟩ = false := HA4.out.cz.fr 0 (by show 0 < 3; omega)
                have y1 : wH.cell? ⟨w.heap.size + 1 + 1, 1, none⟩ = some (.slice none 0 0) := HA4.out.cz.at 1 _ rfl
                have f1 : wH.frozen? ⟨w.heap.size + 1 + 1, 1, none⟩ = false := HA4.out.cz.fr 1 (by show 1 < 3; omega)
                have y2 : wH.cell? ⟨w.heap.size + 1 + 1, 2, none⟩ = some (.slice none 0 0) := HA4.out.cz.at 2 _ rfl
                have f2 : wH.frozen? ⟨w.heap.size + 1 + 1, 2, none⟩ = false := HA4.out.cz.fr 2 (by show 2 < 3; omega)
                go_region_held3 (fun w' => w'.cell? ⟨E, 0, none⟩ = some (.int .i64 (nx + 1)) ∧ w'.cell? ⟨E, 1, none⟩ = some (.slice A7 (lt.length + 1) c7) ∧ w'.cell? ⟨E, 2, none⟩ = some (.slice A'' pl.length c'') ∧ w'.cell? ⟨w.heap.size + 1, 0, none⟩ = some (.int .i64 (nx + 1)))
                  (first | exact HSE.out _ _ HA5.out | exact HSE.out _ _ (HA4.out.keep (grew_drew (grew_refl _))) | (trace_state; fail))
                  (fail)
                have HQ : Hid (OwnB (putC wH.drew (w.heap.size + 1 + 1) 0 [.int .i64 (nx + 1), .slice A7 (lt.length + 1) c7, .slice A'' pl.length c'']) w.heap.size (nx + 1, lt ++ [((nx + 1, q2, q3, q4, q5, q6), false)], pl) A7 A'' c7 c'') := HA5.out.own (by simp) rfl (nx + 1)
                have HGQ := Lib.hid HA5.out.gr
                have z0 : (putC wH.drew (w.heap.size + 1 + 1) 0 [.int .i64 (nx + 1), .slice A7 (lt.length + 1) c7, .slice A'' pl.length c'']).cell? ⟨w.heap.size + 1 + 1, 0, none⟩ = _ := HA5.out.cz.at 0 _ rfl
                have z1 : (putC wH.drew (w.heap.size + 1 + 1) 0 [.int .i64 (nx + 1), .slice A7 (lt.length + 1) c7, .slice A'' pl.length c'']).cell? ⟨w.heap.size + 1 + 1, 1, none⟩ = _ := HA5.out.cz.at 1 _ rfl
                have z2 : (putC wH.drew (w.heap.size + 1 + 1) 0 [.int .i64 (nx + 1), .slice A7 (lt.length + 1) c7, .slice A'' pl.length c'']).cell? ⟨w.heap.size + 1 + 1, 2, none⟩ = _ := HA5.out.cz.at 2 _ rfl
                change Exit.then _ _ _ _ (putC wH.drew (w.heap.size + 1 + 1) 0 [.int .i64 (nx + 1), .slice A7 (lt.length + 1) c7, .slice A'' pl.length c''])
                clear y0 y1 y2 f0 f1 f2 HA4 HA5 HSE
                generalize putC wH.drew (w.heap.size + 1 + 1) 0 [.int .i64 (nx + 1), .slice A7 (lt.length + 1) c7, .slice A'' pl.length c''] = w9 at *
                apply_assumption
                go_wp2
                refine bodyPost_ret (v := .tuple #[.agg #[.int .i64 (nx + 1), .slice A7 (lt.length + 1) c7, .slice A'' pl.length c''], .int .i64 (nx + 1), .int .i64 0]) (by simp [results, Tryz.results30, go_sem, z0, z1, z2]) rfl ?_
                rw [HAS.out] at HYES
                exact HYES.out _ _ _ _ _ HQ.out HGQ.out
            · go_simp
              refine hK.out _ _ ?_ (fun hHeld => ?_)
              · first
                | exact HS2a
                | exact HS4a
                | exact HS5a
              clear hK K
              try simp only [Act.put, List.setIfInBounds_toArray, List.set_cons_zero, List.set_cons_succ]
              refine wpAnyH_ready (rs := [2]) (by kernel_rfl) (by simp) ?_
              refine (AllReadyH.cons (o := { dst := some 35, op := Op.call { callee := Callee.value (Operand.func 56), args := #[Operand.tmp 34], argTypes := #[50] }, type := 26, pos := "book.go:68", after := #[{ on := 1, ground := Ground.data }], guard := none }) rfl (fun K hK => ?_) AllReadyH.nil)
              go_simp
              (go_at_call 56; (with_reducible refine (CL _).mono ?_); rintro e w4 ⟨A3, c3, rfl, ho, hg⟩; have HR4 := Lib.hid hg; have HG4 : Hid (Grew w2 w4) := grew_trans (by repeat (first | exact grew_refl _ | refine grew_drew ?_ | refine grew_trans ?_ (grew_alloc _ _ _))) hg; have HS4 := HS.out _ HG4.out; have HS4a := HS.out _ (grew_trans HG4.out (grew_alloc w4 #[.int .i64 0, .slice none 0 0, .slice none 0 0] 28)); have hs4 : w2.heap.size ≤ w4.heap.size := HG4.out.size; have HO4 := Lib.hid (ho.mono (Nat.zero_le _)); clear ho hg)
              refine hK.out _ _ ?_ (fun hHeld => ?_)
              · first
                | exact HS4
              clear hK K
              try simp only [Act.put, List.setIfInBounds_toArray, List.set_cons_zero, List.set_cons_succ]
              refine wpAnyH_ready (rs := [3]) (by kernel_rfl) (by simp) ?_
              refine (AllReadyH.cons (o := { dst := some 36, op := Op.call { callee := Callee.value (Operand.func 52), args := #[Operand.tmp 33, Operand.tmp 35], argTypes := #[28, 26] }, type := 43, pos := "book.go:68", after := #[{ on := 0, ground := Ground.data }, { on := 2, ground := Ground.data }, { on := 2, ground := Ground.chain }], guard := none }) rfl (fun K hK => ?_) AllReadyH.nil)
              go_simp
              (go_at_call 52; (with_reducible refine (CA _ _ _ (grew_trans HG2.out (grew_trans HG4.out (by repeat (first | exact grew_refl _ | refine grew_drew ?_ | refine grew_trans ?_ (grew_alloc _ _ _))))) (HO4.out.keep (by repeat (first | exact grew_refl _ | refine grew_drew ?_ | refine grew_trans ?_ (grew_alloc _ _ _))))).mono ?_); rintro e w5 ⟨A', A'', c', c'', rfl, hb, hg⟩; have HB5 := Lib.hid hb; have HR5 := Lib.hid hg; have HG5 : Hid (Grew w2 w5) := grew_trans HG4.out (grew_trans (by repeat (first | exact grew_refl _ | refine grew_drew ?_ | refine grew_trans ?_ (grew_alloc _ _ _))) hg); have HS5 := HS.out _ HG5.out; have HS5a := HS.out _ (grew_trans HG5.out (grew_alloc w5 #[.int .i64 0, .slice none 0 0, .slice none 0 0] 28)); have hs5 : w4.heap.size ≤ w5.heap.size := (grew_trans (c := w5) (by repeat (first | exact grew_refl _ | refine grew_drew ?_ | refine grew_trans ?_ (grew_alloc _ _ _))) hg : Grew w4 w5).size; clear hb hg)
              refine hK.out _ _ ?_ (fun hHeld => ?_)
              · first
                | exact HS5
              clear hK K
              try simp only [Act.put, List.setIfInBounds_toArray, List.set_cons_zero, List.set_cons_succ]
              (refine wpAnyH_take (i := 4) (oi := { dst := some 32, op := Op.move (Operand.tmp 36), type := 43, pos := "book.go:68", after := #[{ on := 3, ground := Ground.data }], guard := none }) (v := ?_) rfl (by kernel_rfl) (by kernel_rfl) (by kernel_rfl) (fun _ _ _ h => h) (Or.inl ⟨by rfl, ?_⟩) (by assumption) ?_; rotate_left; · (intro w hSw; (try dsimp only at hSw); go_simp; (first | done | with_reducible rfl)))
              try simp only [Act.put, List.setIfInBounds_toArray, List.set_cons_zero, List.set_cons_succ]
              (refine wpAnyH_take (i := 5) (oi := { dst := some 37, op := Op.extract (Operand.tmp 32) 0, type := 28, pos := "book.go:68", after := #[{ on := 4, ground := Ground.data }], guard := none }) (v := ?_) rfl (by kernel_rfl) (by kernel_rfl) (by kernel_rfl) (fun _ _ _ h => h) (Or.inl ⟨by rfl, ?_⟩) (by assumption) ?_; rotate_left; · (intro w hSw; (try dsimp only at hSw); go_simp; (first | done | with_reducible rfl)))
              try simp only [Act.put, List.setIfInBounds_toArray, List.set_cons_zero, List.set_cons_succ]
              (refine wpAnyH_take (i := 6) (oi := { dst := some 38, op := Op.extract (Operand.tmp 32) 1, type := 34, pos := "book.go:68", after := #[{ on := 4, ground := Ground.data }, { on := 8, ground := Ground.gcOnly Departure.lateStores }], guard := none }) (v := ?_) rfl (by kernel_rfl) (by kernel_rfl) (by kernel_rfl) (fun _ _ _ h => h) (Or.inl ⟨by rfl, ?_⟩) (by assumption) ?_; rotate_left; · (intro w hSw; (try dsimp only at hSw); go_simp; (first | done | with_reducible rfl)))
              try simp only [Act.put, List.setIfInBounds_toArray, List.set_cons_zero, List.set_cons_succ]
              refine wpAnyH_ready (rs := [8]) (by kernel_rfl) (by simp) ?_
              refine (AllReadyH.cons (o := { dst := none, op := Op.store 28 (Operand.tmp 8) (Operand.tmp 37), type := 0, pos := "book.go:68", after := #[{ on := 7, ground := Ground.data }, { on := 5, ground := Ground.data }, { on := 3, ground := Ground.chain }, { on := 0, ground := Ground.phase }, { on := 1, ground := Ground.phase }, { on := 2, ground := Ground.phase }, { on := 3, ground := Ground.phase }, { on := 4, ground := Ground.phase }, { on := 5, ground := Ground.phase }, { on := 6, ground := Ground.textOnly Departure.lateStores }, { on := 7, ground := Ground.phase }], guard := none }) rfl (fun K hK => ?_) AllReadyH.nil)
              first
                | (have HEB := (OwnC.new w2 [.int .i64 0, .slice none 0 0, .slice none 0 0] 28 _ rfl).keep (grew_trans (grew_drew (grew_refl _)) (grew_trans HR4.out HR5.out)); have e0 : w5.cell? ⟨w2.heap.size, 0, none⟩ = some (.int .i64 0) := HEB.at 0 _ rfl; have g0 : w5.frozen? ⟨w2.heap.size, 0, none⟩ = false := HEB.fr 0 (by show 0 < 3; omega); have e1 : w5.cell? ⟨w2.heap.size, 1, none⟩ = some (.slice none 0 0) := HEB.at 1 _ rfl; have g1 : w5.frozen? ⟨w2.heap.size, 1, none⟩ = false := HEB.fr 1 (by show 1 < 3; omega); have e2 : w5.cell? ⟨w2.heap.size, 2, none⟩ = some (.slice none 0 0) := HEB.at 2 _ rfl; have g2 : w5.frozen? ⟨w2.heap.size, 2, none⟩ = false := HEB.fr 2 (by show 2 < 3; omega); clear HEB)
                | (have HEB := (OwnC.new w4 [.int .i64 0, .slice none 0 0, .slice none 0 0] 28 _ rfl).keep HR5.out; have e0 : w5.cell? ⟨w4.heap.size, 0, none⟩ = some (.int .i64 0) := HEB.at 0 _ rfl; have g0 : w5.frozen? ⟨w4.heap.size, 0, none⟩ = false := HEB.fr 0 (by show 0 < 3; omega); have e1 : w5.cell? ⟨w4.heap.size, 1, none⟩ = some (.slice none 0 0) := HEB.at 1 _ rfl; have g1 : w5.frozen? ⟨w4.heap.size, 1, none⟩ = false := HEB.fr 1 (by show 1 < 3; omega); have e2 : w5.cell? ⟨w4.heap.size, 2, none⟩ = some (.slice none 0 0) := HEB.at 2 _ rfl; have g2 : w5.frozen? ⟨w4.heap.size, 2, none⟩ = false := HEB.fr 2 (by show 2 < 3; omega); clear HEB)
                | skip
              go_simp
              refine hK.out _ _ ?_ (fun hHeld => ?_)
              · first
                | exact HS.out _ (grew_trans HG5.out (grew_alloc _ _ _))
                | exact HSO.out _ (OwnC.putO (b2 := w2.heap.size) (by omega) [.int .i64 nx, .slice A' lt.length c', .slice A'' pl.length c''] 0 _ (HX2.out.keep HG5.out)) (OwnC.putO (b2 := w2.heap.size) (by omega) [.int .i64 nx, .slice A' lt.length c', .slice A'' pl.length c''] 0 _ (HT2.out.keep HG5.out))
                | exact HSO.out _ (OwnC.putO (b2 := w4.heap.size) (by omega) [.int .i64 nx, .slice A' lt.length c', .slice A'' pl.length c''] 0 _ (HX2.out.keep HG5.out)) (OwnC.putO (b2 := w4.heap.size) (by omega) [.int .i64 nx, .slice A' lt.length c', .slice A'' pl.length c''] 0 _ (HT2.out.keep HG5.out))
              clear hK K
              try simp only [Act.put, List.setIfInBounds_toArray, List.set_cons_zero, List.set_cons_succ]
              (refine wpAnyH_take (i := 9) (oi := { dst := some 9, op := Op.assign (Operand.tmp 38), type := 34, pos := "book.go:68", after := #[{ on := 6, ground := Ground.data }, { on := 8, ground := Ground.chain }, { on := 0, ground := Ground.phase }, { on := 1, ground := Ground.phase }, { on := 2, ground := Ground.phase }, { on := 3, ground := Ground.phase }, { on := 4, ground := Ground.phase }, { on := 5, ground := Ground.phase }, { on := 6, ground := Ground.phase }, { on := 7, ground := Ground.phase }, { on := 8, ground := Ground.phase }], guard := none }) (v := ?_) rfl (by kernel_rfl) (by kernel_rfl) (by kernel_rfl) (fun _ _ _ h => h) (Or.inl ⟨by rfl, ?_⟩) (by assumption) ?_; rotate_left; · (intro w hSw; (try dsimp only at hSw); go_simp; (first | done | with_reducible rfl)))
              try simp only [Act.put, List.setIfInBounds_toArray, List.set_cons_zero, List.set_cons_succ]
              refine wpAnyH_done (by kernel_rfl) ?_ _
              clear hHeld
              first
                | (have hsb : w2.heap.size + 1 ≤ w4.heap.size := (by have h9 := (HR4.out : Below _ _ _).size; simp at h9; omega); have HA : Hid (AtE w ((((w5).setCell ⟨w2.heap.size, 0, none⟩ (.int .i64 nx)).setCell ⟨w2.heap.size, 1, none⟩ (.slice A' lt.length c')).setCell ⟨w2.heap.size, 2, none⟩ (.slice A'' pl.length c'')) (w2.heap.size) (w.heap.size + 1) (w.heap.size + 1 + 1) [.int .i64 nx, .slice A' lt.length c', .slice A'' pl.length c''] [.int .i64 q1, .int .i64 q2, .int .i64 q3, .int .i64 q4, .int .i64 q5, .int .i64 q6, .bool q7] [.int .i64 0, .slice none 0 0, .slice none 0 0] A' A'' lt.length pl.length c' c'' lt pl) := AtE.new (b := (nx, lt, pl)) (vs := [.int .i64 nx, .slice A' lt.length c', .slice A'' pl.length c'']) (((OwnC.new w2 [.int .i64 0, .slice none 0 0, .slice none 0 0] 28 _ rfl).keep (grew_trans (grew_drew (grew_refl _)) (grew_trans HR4.out HR5.out)))) (HT2.out.keep HG5.out) (HZ2.out.keep HG5.out) (HB5.out) (by omega) (fun x hx => by have := (HB5.out.t.block x hx).1; omega) (fun x hx => by have := (HB5.out.p.block x hx).1; omega) (grew_trans HG2.out HG5.out) ⟨by omega, by omega, by omega⟩ rfl; generalize (((w5).setCell ⟨w2.heap.size, 0, none⟩ (.int .i64 nx)).setCell ⟨w2.heap.size, 1, none⟩ (.slice A' lt.length c')).setCell ⟨w2.heap.size, 2, none⟩ (.slice A'' pl.length c'') = wE at *; generalize hE : w2.heap.size = E at *)
                | (have hsc : w4.heap.size + 1 ≤ (w4.alloc (.cells #[.int .i64 0, .slice none 0 0, .slice none 0 0] 28)).heap.size := (by simp); have HA : Hid (AtE w ((((w5).setCell ⟨w4.heap.size, 0, none⟩ (.int .i64 nx)).setCell ⟨w4.heap.size, 1, none⟩ (.slice A' lt.length c')).setCell ⟨w4.heap.size, 2, none⟩ (.slice A'' pl.length c'')) (w4.heap.size) (w.heap.size + 1) (w.heap.size + 1 + 1) [.int .i64 nx, .slice A' lt.length c', .slice A'' pl.length c''] [.int .i64 q1, .int .i64 q2, .int .i64 q3, .int .i64 q4, .int .i64 q5, .int .i64 q6, .bool q7] [.int .i64 0, .slice none 0 0, .slice none 0 0] A' A'' lt.length pl.length c' c'' lt pl) := AtE.new (b := (nx, lt, pl)) (vs := [.int .i64 nx, .slice A' lt.length c', .slice A'' pl.length c'']) (((OwnC.new w4 [.int .i64 0, .slice none 0 0, .slice none 0 0] 28 _ rfl).keep HR5.out)) (HT2.out.keep HG5.out) (HZ2.out.keep HG5.out) (HB5.out) (by omega) (fun x hx => by have := (HB5.out.t.block x hx).1; omega) (fun x hx => by have := (HB5.out.p.block x hx).1; omega) (grew_trans HG2.out HG5.out) ⟨by omega, by omega, by omega⟩ rfl; generalize (((w5).setCell ⟨w4.heap.size, 0, none⟩ (.int .i64 nx)).setCell ⟨w4.heap.size, 1, none⟩ (.slice A' lt.length c')).setCell ⟨w4.heap.size, 2, none⟩ (.slice A'' pl.length c'') = wE at *; generalize hE : w4.heap.size = E at *)
                | (have HA : Hid (AtE w (w5.alloc (.cells #[.int .i64 nx, .slice A' lt.length c', .slice A'' pl.length c''] 28)) (w5.heap.size) (w.heap.size + 1) (w.heap.size + 1 + 1) [.int .i64 nx, .slice A' lt.length c', .slice A'' pl.length c''] [.int .i64 q1, .int .i64 q2, .int .i64 q3, .int .i64 q4, .int .i64 q5, .int .i64 q6, .bool q7] [.int .i64 0, .slice none 0 0, .slice none 0 0] A' A'' lt.length pl.length c' c'' lt pl) := AtE.lay (b := (nx, lt, pl)) (vs := [.int .i64 nx, .slice A' lt.length c', .slice A'' pl.length c'']) (OwnC.new w5 [.int .i64 nx, .slice A' lt.length c', .slice A'' pl.length c''] _ _ rfl) ((HT2.out.keep HG5.out).keep (grew_alloc _ _ _)) ((HZ2.out.keep HG5.out).keep (grew_alloc _ _ _)) (HB5.out.keep (grew_alloc _ _ _)) (by omega) (fun x hx => by have := (HB5.out.t.block x hx).2; omega) (fun x hx => by have := (HB5.out.p.block x hx).2; omega) (grew_trans HG2.out (grew_trans HG5.out (grew_alloc _ _ _))) ⟨by omega, by omega, by omega⟩; generalize w5.alloc (.cells #[.int .i64 nx, .slice A' lt.length c', .slice A'' pl.length c''] 28) = wE at *; generalize hE : w5.heap.size = E at *)
              clear HS HSO HB5 HO4 HG5 HR5 HG4 HR4 HS4 HS5
              have e0 : wE.cell? ⟨E, 0, none⟩ = some (.int .i64 nx) := HA.out.ce.at 0 _ rfl
              have g0 : wE.frozen? ⟨E, 0, none⟩ = false := HA.out.ce.fr 0 (by show 0 < 3; omega)
              apply_assumption
              go_upto_region 14 with fail
              have HA1 : Hid (AtE w (wE.setCell ⟨E, 0, none⟩ (.int .i64 (nx + 1))) E (w.heap.size + 1) (w.heap.size + 1 + 1) [.int .i64 (nx + 1), .slice A' lt.length c', .slice A'' pl.length c''] [.int .i64 q1, .int .i64 q2, .int .i64 q3, .int .i64 q4, .int .i64 q5, .int .i64 q6, .bool q7] [.int .i64 0, .slice none 0 0, .slice none 0 0] A' A'' lt.length pl.length c' c'' lt pl) := HA.out.setE 0 (.int .i64 (nx + 1)) (by show 0 < 3; omega)
              clear e0 g0 HA
              generalize wE.setCell ⟨E, 0, none⟩ (.int .i64 (nx + 1)) = wF at *
              have e0 : wF.cell? ⟨E, 0, none⟩ = some (.int .i64 (nx + 1)) := HA1.out.ce.at 0 _ rfl
              have t0 : wF.cell? ⟨w.heap.size + 1, 0, none⟩ = some (.int .i64 q1) := HA1.out.co.at 0 _ rfl
              have t6 : wF.cell? ⟨w.heap.size + 1, 6, none⟩ = some (.bool q7) := HA1.out.co.at 6 _ rfl
              have u0 : wF.frozen? ⟨w.heap.size + 1, 0, none⟩ = false := HA1.out.co.fr 0 (by show 0 < 7; omega)
              have u6 : wF.frozen? ⟨w.heap.size + 1, 6, none⟩ = false := HA1.out.co.fr 6 (by show 6 < 7; omega)
              go_upto_region 15 with fail
              have HA2 : Hid (AtE w ((wF.setCell ⟨w.heap.size + 1, 0, none⟩ (.int .i64 (nx + 1))).setCell ⟨w.heap.size + 1, 6, none⟩ (.bool false)) E (w.heap.size + 1) (w.heap.size + 1 + 1) [.int .i64 (nx + 1), .slice A' lt.length c', .slice A'' pl.length c''] [.int .i64 (nx + 1), .int .i64 q2, .int .i64 q3, .int .i64 q4, .int .i64 q5, .int .i64 q6, .bool false] [.int .i64 0, .slice none 0 0, .slice none 0 0] A' A'' lt.length pl.length c' c'' lt pl) := (HA1.out.setO 0 (.int .i64 (nx + 1)) (by show 0 < 7; omega)).setO 6 (.bool false) (by show 6 < 7; omega)
              clear e0 t0 t6 u0 u6 HA1
              generalize (wF.setCell ⟨w.heap.size + 1, 0, none⟩ (.int .i64 (nx + 1))).setCell ⟨w.heap.size + 1, 6, none⟩ (.bool false) = wG at *
              have e1 : wG.cell? ⟨E, 1, none⟩ = some (.slice A' lt.length c') := HA2.out.ce.at 1 _ rfl
              have t0 : wG.cell? ⟨w.heap.size + 1, 0, none⟩ = some (.int .i64 (nx + 1)) := HA2.out.co.at 0 _ rfl
              have t1 : wG.cell? ⟨w.heap.size + 1, 1, none⟩ = some (.int .i64 q2) := HA2.out.co.at 1 _ rfl
              have t2 : wG.cell? ⟨w.heap.size + 1, 2, none⟩ = some (.int .i64 q3) := HA2.out.co.at 2 _ rfl
              have t3 : wG.cell? ⟨w.heap.size + 1, 3, none⟩ = some (.int .i64 q4) := HA2.out.co.at 3 _ rfl
              have t4 : wG.cell? ⟨w.heap.size + 1, 4, none⟩ = some (.int .i64 q5) := HA2.out.co.at 4 _ rfl
              have t5 : wG.cell? ⟨w.heap.size + 1, 5, none⟩ = some (.int .i64 q6) := HA2.out.co.at 5 _ rfl
              have t6 : wG.cell? ⟨w.heap.size + 1, 6, none⟩ = some (.bool false) := HA2.out.co.at 6 _ rfl
              have HSG : Hid (w.heap.size + 1 + 1 + 1 ≤ wG.heap.size) := by have := HA2.out.cz.lt; show _ ≤ _; omega
              go_upto_region 16 with (at_builtin; refine (wpList_twoG (E := enTr) (F := enPo) (s := 50) (t := 31) (base := w.heap.size + 1 + 1 + 1) rfl _ _ 25 (vTr tr0) 56 rfl Tryz.underlying25 info_tr rfl (HA2.out.rows.keep (grew_alloc _ _ _)) rfl _ ((nx + 1, q2, q3, q4, q5, q6), false) rfl (RowE.one1 enTr _ _ _ _ _ rfl rfl) (by unfold maxLen; omega) (by omega) (Nat.le_trans HSG.out (by simp)) ?_); intro A7 c7 w7 hr hg hA; have HA3 := Lib.hid ((HA2.out.keep (grew_alloc _ _ _)).app hr hg hA); have e1b : w7.cell? ⟨E, 1, none⟩ = some (.slice A' lt.length c') := HA3.out.ce.at 1 _ rfl; have g1b : w7.frozen? ⟨E, 1, none⟩ = false := HA3.out.ce.fr 1 (by show 1 < 3; omega); clear hr hg hA e1 t0 t1 t2 t3 t4 t5 t6)
              have HA4 : Hid (AtE w (w7.setCell ⟨E, 1, none⟩ (.slice A7 (lt.length + 1) c7)) E (w.heap.size + 1) (w.heap.size + 1 + 1) [.int .i64 (nx + 1), .slice A7 (lt.length + 1) c7, .slice A'' pl.length c''] [.int .i64 (nx + 1), .int .i64 q2, .int .i64 q3, .int .i64 q4, .int .i64 q5, .int .i64 q6, .bool false] [.int .i64 0, .slice none 0 0, .slice none 0 0] A7 A'' (lt.length + 1) pl.length c7 c'' (lt ++ [((nx + 1, q2, q3, q4, q5, q6), false)]) pl) := HA3.out.setE 1 (.slice A7 (lt.length + 1) c7) (by show 1 < 3; omega)
              clear e1b g1b HA3 HA2
              generalize w7.setCell ⟨E, 1, none⟩ (.slice A7 (lt.length + 1) c7) = wH at *
              have HSE : Hid (∀ w' zl, AtE w (w') E (w.heap.size + 1) (w.heap.size + 1 + 1) [.int .i64 (nx + 1), .slice A7 (lt.length + 1) c7, .slice A'' pl.length c''] [.int .i64 (nx + 1), .int .i64 q2, .int .i64 q3, .int .i64 q4, .int .i64 q5, .int .i64 q6, .bool false] zl A7 A'' (lt.length + 1) pl.length c7 c'' (lt ++ [((nx + 1, q2, q3, q4, q5, q6), false)]) pl → (w'.cell? ⟨E, 0, none⟩ = some (.int .i64 (nx + 1)) ∧ w'.cell? ⟨E, 1, none⟩ = some (.slice A7 (lt.length + 1) c7) ∧ w'.cell? ⟨E, 2, none⟩ = some (.slice A'' pl.length c'') ∧ w'.cell? ⟨w.heap.size + 1, 0, none⟩ = some (.int .i64 (nx + 1)))) := fun w' zl h => ⟨h.ce.at 0 _ rfl, h.ce.at 1 _ rfl, h.ce.at 2 _ rfl, h.co.at 0 _ rfl⟩
              have HA5 : Hid (AtE w (putC wH.drew (w.heap.size + 1 + 1) 0 [.int .i64 (nx + 1), .slice A7 (lt.length + 1) c7, .slice A'' pl.length c'']) E (w.heap.size + 1) (w.heap.size + 1 + 1) [.int .i64 (nx + 1), .slice A7 (lt.length + 1) c7, .slice A'' pl.length c''] [.int .i64 (nx + 1), .int .i64 q2, .int .i64 q3, .int .i64 q4, .int .i64 q5, .int .i64 q6, .bool false] [.int .i64 (nx + 1), .slice A7 (lt.length + 1) c7, .slice A'' pl.length c''] A7 A'' (lt.length + 1) pl.length c7 c'' (lt ++ [((nx + 1, q2, q3, q4, q5, q6), false)]) pl) := (HA4.out.keep (grew_drew (grew_refl _))).putZ [.int .i64 (nx + 1), .slice A7 (lt.length + 1) c7, .slice A'' pl.length c''] rfl
              have y0 : wH.cell? ⟨w.heap.size + 1 + 1, 0, none⟩ = some (.int .i64 0) := HA4.out.cz.at 0 _ rfl
              have f0 : wH.frozen? ⟨w.heap.size + 1 + 1, 0, none⟩ = false := HA4.out.cz.fr 0 (by show 0 < 3; omega)
              have y1 : wH.cell? ⟨w.heap.size + 1 + 1, 1, none⟩ = some (.slice none 0 0) := HA4.out.cz.at 1 _ rfl
              have f1 : wH.frozen? ⟨w.heap.size + 1 + 1, 1, none⟩ = false := HA4.out.cz.fr 1 (by show 1 < 3; omega)
              have y2 : wH.cell? ⟨w.heap.size + 1 + 1, 2, none⟩ = some (.slice none 0 0) := HA4.out.cz.at 2 _ rfl
              have f2 : wH.frozen? ⟨w.heap.size + 1 + 1, 2, none⟩ = false := HA4.out.cz.fr 2 (by show 2 < 3; omega)
              go_region_held3 (fun w' => w'.cell? ⟨E, 0, none⟩ = some (.int .i64 (nx + 1)) ∧ w'.cell? ⟨E, 1, none⟩ = some (.slice A7 (lt.length + 1) c7) ∧ w'.cell? ⟨E, 2, none⟩ = some (.slice A'' pl.length c'') ∧ w'.cell? ⟨w.heap.size + 1, 0, none⟩ = some (.int .i64 (nx + 1)))
                (first | exact HSE.out _ _ HA5.out | exact HSE.out _ _ (HA4.out.keep (grew_drew (grew_refl _))) | (trace_state; fail))
                (fail)
              have HQ : Hid (OwnB (putC wH.drew (w.heap.size + 1 + 1) 0 [.int .i64 (nx + 1), .slice A7 (lt.length + 1) c7, .slice A'' pl.length c'']) w.heap.size (nx + 1, lt ++ [((nx + 1, q2, q3, q4, q5, q6), false)], pl) A7 A'' c7 c'') := HA5.out.own (by simp) rfl (nx + 1)
              have HGQ := Lib.hid HA5.out.gr
              have z0 : (putC wH.drew (w.heap.size + 1 + 1) 0 [.int .i64 (nx + 1), .slice A7 (lt.length + 1) c7, .slice A'' pl.length c'']).cell? ⟨w.heap.size + 1 + 1, 0, none⟩ = _ := HA5.out.cz.at 0 _ rfl
              have z1 : (putC wH.drew (w.heap.size + 1 + 1) 0 [.int .i64 (nx + 1), .slice A7 (lt.length + 1) c7, .slice A'' pl.length c'']).cell? ⟨w.heap.size + 1 + 1, 1, none⟩ = _ := HA5.out.cz.at 1 _ rfl
              have z2 : (putC wH.drew (w.heap.size + 1 + 1) 0 [.int .i64 (nx + 1), .slice A7 (lt.length + 1) c7, .slice A'' pl.length c'']).cell? ⟨w.heap.size + 1 + 1, 2, none⟩ = _ := HA5.out.cz.at 2 _ rfl
              change Exit.then _ _ _ _ (putC wH.drew (w.heap.size + 1 + 1) 0 [.int .i64 (nx + 1), .slice A7 (lt.length + 1) c7, .slice A'' pl.length c''])
              clear y0 y1 y2 f0 f1 f2 HA4 HA5 HSE
              generalize putC wH.drew (w.heap.size + 1 + 1) 0 [.int .i64 (nx + 1), .slice A7 (lt.length + 1) c7, .slice A'' pl.length c''] = w9 at *
              apply_assumption
              go_wp2
              refine bodyPost_ret (v := .tuple #[.agg #[.int .i64 (nx + 1), .slice A7 (lt.length + 1) c7, .slice A'' pl.length c''], .int .i64 (nx + 1), .int .i64 0]) (by simp [results, Tryz.results30, go_sem, z0, z1, z2]) rfl ?_
              rw [HAS.out] at HYES
              exact HYES.out _ _ _ _ _ HQ.out HGQ.out
          · have HF := Lib.hid (enter_no he ha (w := w))
            rw [addE_no ha] at CA
            clear h he hr ht h128 hnx
            generalize BookN (enterB b t) (enterN b t) (enterE b t) w = PP at *
            generalize hae : addE b (legsT t false) = ae at *
            have d5 : (ae != 0) = true := by simpa using ha
            clear hae ha
            generalize legsT t false = lg at *
            obtain ⟨⟨q1, q2, q3, q4, q5, q6⟩, q7⟩ := t
            dsimp only [vBk, vTr] at *
            generalize b.1 = nx at *
            have HX0 : Hid (OwnC (((w.alloc (.cells #[.int .i64 nx, .slice A1 n1 c1, .slice A2 n2 c2] 28)).alloc (.cells #[.int .i64 q1, .int .i64 q2, .int .i64 q3, .int .i64 q4, .int .i64 q5, .int .i64 q6, .bool q7] 50)).alloc (.cells #[.int .i64 0, .slice none 0 0, .slice none 0 0] 28)) w.heap.size [.int .i64 nx, .slice A1 n1 c1, .slice A2 n2 c2]) := ((OwnC.new w [.int .i64 nx, .slice A1 n1 c1, .slice A2 n2 c2] _ _ rfl).keep (grew_alloc _ _ _)).keep (grew_alloc _ _ _)
            have HT0 : Hid (OwnC (((w.alloc (.cells #[.int .i64 nx, .slice A1 n1 c1, .slice A2 n2 c2] 28)).alloc (.cells #[.int .i64 q1, .int .i64 q2, .int .i64 q3, .int .i64 q4, .int .i64 q5, .int .i64 q6, .bool q7] 50)).alloc (.cells #[.int .i64 0, .slice none 0 0, .slice none 0 0] 28)) (w.heap.size + 1) [.int .i64 q1, .int .i64 q2, .int .i64 q3, .int .i64 q4, .int .i64 q5, .int .i64 q6, .bool q7]) := (OwnC.new _ [.int .i64 q1, .int .i64 q2, .int .i64 q3, .int .i64 q4, .int .i64 q5, .int .i64 q6, .bool q7] _ _ (by simp)).keep (grew_alloc _ _ _)
            have HZ0 : Hid (OwnC (((w.alloc (.cells #[.int .i64 nx, .slice A1 n1 c1, .slice A2 n2 c2] 28)).alloc (.cells #[.int .i64 q1, .int .i64 q2, .int .i64 q3, .int .i64 q4, .int .i64 q5, .int .i64 q6, .bool q7] 50)).alloc (.cells #[.int .i64 0, .slice none 0 0, .slice none 0 0] 28)) (w.heap.size + 1 + 1) [.int .i64 0, .slice none 0 0, .slice none 0 0]) := OwnC.new _ [.int .i64 0, .slice none 0 0, .slice none 0 0] _ _ (by simp)
            have HG0 : Hid (Grew w (((w.alloc (.cells #[.int .i64 nx, .slice A1 n1 c1, .slice A2 n2 c2] 28)).alloc (.cells #[.int .i64 q1, .int .i64 q2, .int .i64 q3, .int .i64 q4, .int .i64 q5, .int .i64 q6, .bool q7] 50)).alloc (.cells #[.int .i64 0, .slice none 0 0, .slice none 0 0] 28))) := grew_trans (grew_trans (grew_alloc _ _ _) (grew_alloc _ _ _)) (grew_alloc _ _ _)
            go_enter Tryz.func30, Tryz.ntmps30
            go_upto_region 1 with fail
            generalize ((w.alloc (.cells #[.int .i64 nx, .slice A1 n1 c1, .slice A2 n2 c2] 28)).alloc (.cells #[.int .i64 q1, .int .i64 q2, .int .i64 q3, .int .i64 q4, .int .i64 q5, .int .i64 q6, .bool q7] 50)).alloc (.cells #[.int .i64 0, .slice none 0 0, .slice none 0 0] 28) = w0 at *
            have x0 : w0.cell? ⟨w.heap.size, 0, none⟩ = some (.int .i64 nx) := HX0.out.at 0 _ rfl
            have x1 : w0.cell? ⟨w.heap.size, 1, none⟩ = some (.slice A1 n1 c1) := HX0.out.at 1 _ rfl
            have x2 : w0.cell? ⟨w.heap.size, 2, none⟩ = some (.slice A2 n2 c2) := HX0.out.at 2 _ rfl
            go_upto_region 10 with (first
              | (go_at_call 12; ((with_reducible refine (CC _ HG0.out).mono ?_); rintro e w1 ⟨rfl, hg⟩; have HG1 := Lib.hid (grew_trans HG0.out hg); have HX1 := Lib.hid (HX0.out.keep hg); have HT1 := Lib.hid (HT0.out.keep hg); have HZ1 := Lib.hid (HZ0.out.keep hg); have t0 : w1.cell? ⟨w.heap.size + 1, 0, none⟩ = some (.int .i64 q1) := HT1.out.at 0 _ rfl; have t1 : w1.cell? ⟨w.heap.size + 1, 1, none⟩ = some (.int .i64 q2) := HT1.out.at 1 _ rfl; have t2 : w1.cell? ⟨w.heap.size + 1, 2, none⟩ = some (.int .i64 q3) := HT1.out.at 2 _ rfl; have t3 : w1.cell? ⟨w.heap.size + 1, 3, none⟩ = some (.int .i64 q4) := HT1.out.at 3 _ rfl; have t4 : w1.cell? ⟨w.heap.size + 1, 4, none⟩ = some (.int .i64 q5) := HT1.out.at 4 _ rfl; have t5 : w1.cell? ⟨w.heap.size + 1, 5, none⟩ = some (.int .i64 q6) := HT1.out.at 5 _ rfl; have t6 : w1.cell? ⟨w.heap.size + 1, 6, none⟩ = some (.bool q7) := HT1.out.at 6 _ rfl; clear hg CC x0 x1 x2))
              | (go_at_call 55; ((with_reducible refine (CT _).mono ?_); rintro e w2 ⟨rfl, hg⟩; have HG2 := Lib.hid (grew_trans HG1.out hg); have HX2 := Lib.hid (HX1.out.keep hg); have HT2 := Lib.hid (HT1.out.keep hg); have HZ2 := Lib.hid (HZ1.out.keep hg); have x0 : w2.cell? ⟨w.heap.size, 0, none⟩ = some (.int .i64 nx) := HX2.out.at 0 _ rfl; have x1 : w2.cell? ⟨w.heap.size, 1, none⟩ = some (.slice A1 n1 c1) := HX2.out.at 1 _ rfl; have x2 : w2.cell? ⟨w.heap.size, 2, none⟩ = some (.slice A2 n2 c2) := HX2.out.at 2 _ rfl; clear hg CT t0 t1 t2 t3 t4 t5 t6)))
            have HSO : Hid (∀ w', OwnC w' (w.heap.size) [.int .i64 nx, .slice A1 n1 c1, .slice A2 n2 c2] → OwnC w' (w.heap.size + 1) [.int .i64 q1, .int .i64 q2, .int .i64 q3, .int .i64 q4, .int .i64 q5, .int .i64 q6, .bool q7] → (w'.cell? ⟨w.heap.size, 0, none⟩ = some (.int .i64 nx) ∧ w'.cell? ⟨w.heap.size, 1, none⟩ = some (.slice A1 n1 c1) ∧ w'.cell? ⟨w.heap.size, 2, none⟩ = some (.slice A2 n2 c2) ∧ w'.cell? ⟨w.heap.size + 1, 0, none⟩ = some (.int .i64 q1) ∧ w'.cell? ⟨w.heap.size + 1, 1, none⟩ = some (.int .i64 q2) ∧ w'.cell? ⟨w.heap.size + 1, 2, none⟩ = some (.int .i64 q3) ∧ w'.cell? ⟨w.heap.size + 1, 3, none⟩ = some (.int .i64 q4) ∧ w'.cell? ⟨w.heap.size + 1, 4, none⟩ = some (.int .i64 q5) ∧ w'.cell? ⟨w.heap.size + 1, 5, none⟩ = some (.int .i64 q6) ∧ w'.cell? ⟨w.heap.size + 1, 6, none⟩ = some (.bool q7))) := fun w' hx ht => ⟨hx.at 0 _ rfl, hx.at 1 _ rfl, hx.at 2 _ rfl, ht.at 0 _ rfl, ht.at 1 _ rfl, ht.at 2 _ rfl, ht.at 3 _ rfl, ht.at 4 _ rfl, ht.at 5 _ rfl, ht.at 6 _ rfl⟩
            have HS : Hid (∀ w', Grew w2 w' → (w'.cell? ⟨w.heap.size, 0, none⟩ = some (.int .i64 nx) ∧ w'.cell? ⟨w.heap.size, 1, none⟩ = some (.slice A1 n1 c1) ∧ w'.cell? ⟨w.heap.size, 2, none⟩ = some (.slice A2 n2 c2) ∧ w'.cell? ⟨w.heap.size + 1, 0, none⟩ = some (.int .i64 q1) ∧ w'.cell? ⟨w.heap.size + 1, 1, none⟩ = some (.int .i64 q2) ∧ w'.cell? ⟨w.heap.size + 1, 2, none⟩ = some (.int .i64 q3) ∧ w'.cell? ⟨w.heap.size + 1, 3, none⟩ = some (.int .i64 q4) ∧ w'.cell? ⟨w.heap.size + 1, 4, none⟩ = some (.int .i64 q5) ∧ w'.cell? ⟨w.heap.size + 1, 5, none⟩ = some (.int .i64 q6) ∧ w'.cell? ⟨w.heap.size + 1, 6, none⟩ = some (.bool q7))) := fun w' g => HSO.out _ (HX2.out.keep g) (HT2.out.keep g)
            have hs2 : w.heap.size + 3 ≤ w2.heap.size := by have := HZ2.out.lt; omega
            clear x0 x1 x2
            have HS2a := HS.out _ (grew_drew (grew_alloc w2 #[.int .i64 0, .slice none 0 0, .slice none 0 0] 28))
            refine wp_region_noPanic ?_
            refine wp_region_held_drew (S := fun w' => w'.cell? ⟨w.heap.size, 0, none⟩ = some (.int .i64 nx) ∧ w'.cell? ⟨w.heap.size, 1, none⟩ = some (.slice A1 n1 c1) ∧ w'.cell? ⟨w.heap.size, 2, none⟩ = some (.slice A2 n2 c2) ∧ w'.cell? ⟨w.heap.size + 1, 0, none⟩ = some (.int .i64 q1) ∧ w'.cell? ⟨w.heap.size + 1, 1, none⟩ = some (.int .i64 q2) ∧ w'.cell? ⟨w.heap.size + 1, 2, none⟩ = some (.int .i64 q3) ∧ w'.cell? ⟨w.heap.size + 1, 3, none⟩ = some (.int .i64 q4) ∧ w'.cell? ⟨w.heap.size + 1, 4, none⟩ = some (.int .i64 q5) ∧ w'.cell? ⟨w.heap.size + 1, 5, none⟩ = some (.int .i64 q6) ∧ w'.cell? ⟨w.heap.size + 1, 6, none⟩ = some (.bool q7)) (by kernel_rfl) (HS.out _ (grew_drew (grew_refl _))) (fun hHeld => ?_)
            (refine wpAnyH_take (i := 0) (oi := { dst := some 33, op := Op.load 28 (Operand.tmp 2), type := 28, pos := "book.go:68", after := #[], guard := none }) (v := ?_) rfl (by kernel_rfl) (by kernel_rfl) (by kernel_rfl) (fun _ _ _ h => h) (Or.inl ⟨by rfl, ?_⟩) (by assumption) ?_; rotate_left; · (intro w hSw; (try dsimp only at hSw); go_simp; (first | done | with_reducible rfl)))
            try simp only [Act.put, List.setIfInBounds_toArray, List.set_cons_zero, List.set_cons_succ]
            (refine wpAnyH_take (i := 1) (oi := { dst := some 34, op := Op.load 50 (Operand.tmp 3), type := 50, pos := "book.go:68", after := #[], guard := none }) (v := ?_) rfl (by kernel_rfl) (by kernel_rfl) (by kernel_rfl) (fun _ _ _ h => h) (Or.inl ⟨by rfl, ?_⟩) (by assumption) ?_; rotate_left; · (intro w hSw; (try dsimp only at hSw); go_simp; (first | done | with_reducible rfl)))
            try simp only [Act.put, List.setIfInBounds_toArray, List.set_cons_zero, List.set_cons_succ]
            refine wpAnyH_ready (rs := [2, 7]) (by kernel_rfl) (by simp) ?_
            refine (AllReadyH.cons (o := { dst := some 35, op := Op.call { callee := Callee.value (Operand.func 56), args := #[Operand.tmp 34], argTypes := #[50] }, type := 26, pos := "book.go:68", after := #[{ on := 1, ground := Ground.data }], guard := none }) rfl (fun K hK => ?_) (AllReadyH.cons (o := { dst := some 8, op := Op.alloc 28, type := 0, pos := "book.go:68", after := #[], guard := none }) rfl (fun K hK => ?_) AllReadyH.nil))
            · go_simp
              (go_at_call 56; (with_reducible refine (CL _).mono ?_); rintro e w4 ⟨A3, c3, rfl, ho, hg⟩; have HR4 := Lib.hid hg; have HG4 : Hid (Grew w2 w4) := grew_trans (by repeat (first | exact grew_refl _ | refine grew_drew ?_ | refine grew_trans ?_ (grew_alloc _ _ _))) hg; have HS4 := HS.out _ HG4.out; have HS4a := HS.out _ (grew_trans HG4.out (grew_alloc w4 #[.int .i64 0, .slice none 0 0, .slice none 0 0] 28)); have hs4 : w2.heap.size ≤ w4.heap.size := HG4.out.size; have HO4 := Lib.hid (ho.mono (Nat.zero_le _)); clear ho hg)
              refine hK.out _ _ ?_ (fun hHeld => ?_)
              · first
                | exact HS4
              clear hK K
              try simp only [Act.put, List.setIfInBounds_toArray, List.set_cons_zero, List.set_cons_succ]
              refine wpAnyH_ready (rs := [3, 7]) (by kernel_rfl) (by simp) ?_
              refine (AllReadyH.cons (o := { dst := some 36, op := Op.call { callee := Callee.value (Operand.func 52), args := #[Operand.tmp 33, Operand.tmp 35], argTypes := #[28, 26] }, type := 43, pos := "book.go:68", after := #[{ on := 0, ground := Ground.data }, { on := 2, ground := Ground.data }, { on := 2, ground := Ground.chain }], guard := none }) rfl (fun K hK => ?_) (AllReadyH.cons (o := { dst := some 8, op := Op.alloc 28, type := 0, pos := "book.go:68", after := #[], guard := none }) rfl (fun K hK => ?_) AllReadyH.nil))
              · go_simp
                (go_at_call 52; (with_reducible refine (CA _ _ _ (grew_trans HG2.out (grew_trans HG4.out (by repeat (first | exact grew_refl _ | refine grew_drew ?_ | refine grew_trans ?_ (grew_alloc _ _ _))))) (HO4.out.keep (by repeat (first | exact grew_refl _ | refine grew_drew ?_ | refine grew_trans ?_ (grew_alloc _ _ _))))).mono ?_); rintro e w5 ⟨A', A'', c', c'', rfl, hb, hg⟩; have HB5 := Lib.hid hb; have HR5 := Lib.hid hg; have HG5 : Hid (Grew w2 w5) := grew_trans HG4.out (grew_trans (by repeat (first | exact grew_refl _ | refine grew_drew ?_ | refine grew_trans ?_ (grew_alloc _ _ _))) hg); have HS5 := HS.out _ HG5.out; have HS5a := HS.out _ (grew_trans HG5.out (grew_alloc w5 #[.int .i64 0, .slice none 0 0, .slice none 0 0] 28)); have hs5 : w4.heap.size ≤ w5.heap.size := (grew_trans (c := w5) (by repeat (first | exact grew_refl _ | refine grew_drew ?_ | refine grew_trans ?_ (grew_alloc _ _ _))) hg : Grew w4 w5).size; clear hb hg)
                refine hK.out _ _ ?_ (fun hHeld => ?_)
                · first
                  | exact HS5
                clear hK K
                try simp only [Act.put, List.setIfInBounds_toArray, List.set_cons_zero, List.set_cons_succ]
                (refine wpAnyH_take (i := 4) (oi := { dst := some 32, op := Op.move (Operand.tmp 36), type := 43, pos := "book.go:68", after := #[{ on := 3, ground := Ground.data }], guard := none }) (v := ?_) rfl (by kernel_rfl) (by kernel_rfl) (by kernel_rfl) (fun _ _ _ h => h) (Or.inl ⟨by rfl, ?_⟩) (by assumption) ?_; rotate_left; · (intro w hSw; (try dsimp only at hSw); go_simp; (first | done | with_reducible rfl)))
                try simp only [Act.put, List.setIfInBounds_toArray, List.set_cons_zero, List.set_cons_succ]
                (refine wpAnyH_take (i := 5) (oi := { dst := some 37, op := Op.extract (Operand.tmp 32) 0, type := 28, pos := "book.go:68", after := #[{ on := 4, ground := Ground.data }], guard := none }) (v := ?_) rfl (by kernel_rfl) (by kernel_rfl) (by kernel_rfl) (fun _ _ _ h => h) (Or.inl ⟨by rfl, ?_⟩) (by assumption) ?_; rotate_left; · (intro w hSw; (try dsimp only at hSw); go_simp; (first | done | with_reducible rfl)))
                try simp only [Act.put, List.setIfInBounds_toArray, List.set_cons_zero, List.set_cons_succ]
                (refine wpAnyH_take (i := 6) (oi := { dst := some 38, op := Op.extract (Operand.tmp 32) 1, type := 34, pos := "book.go:68", after := #[{ on := 4, ground := Ground.data }, { on := 8, ground := Ground.gcOnly Departure.lateStores }], guard := none }) (v := ?_) rfl (by kernel_rfl) (by kernel_rfl) (by kernel_rfl) (fun _ _ _ h => h) (Or.inl ⟨by rfl, ?_⟩) (by assumption) ?_; rotate_left; · (intro w hSw; (try dsimp only at hSw); go_simp; (first | done | with_reducible rfl)))
                try simp only [Act.put, List.setIfInBounds_toArray, List.set_cons_zero, List.set_cons_succ]
                refine wpAnyH_ready (rs := [7]) (by kernel_rfl) (by simp) ?_
                refine (AllReadyH.cons (o := { dst := some 8, op := Op.alloc 28, type := 0, pos := "book.go:68", after := #[], guard := none }) rfl (fun K hK => ?_) AllReadyH.nil)
                go_simp
                refine hK.out _ _ ?_ (fun hHeld => ?_)
                · first
                  | exact HS2a
                  | exact HS4a
                  | exact HS5a
                clear hK K
                try simp only [Act.put, List.setIfInBounds_toArray, List.set_cons_zero, List.set_cons_succ]
                refine wpAnyH_ready (rs := [8]) (by kernel_rfl) (by simp) ?_
                refine (AllReadyH.cons (o := { dst := none, op := Op.store 28 (Operand.tmp 8) (Operand.tmp 37), type := 0, pos := "book.go:68", after := #[{ on := 7, ground := Ground.data }, { on := 5, ground := Ground.data }, { on := 3, ground := Ground.chain }, { on := 0, ground := Ground.phase }, { on := 1, ground := Ground.phase }, { on := 2, ground := Ground.phase }, { on := 3, ground := Ground.phase }, { on := 4, ground := Ground.phase }, { on := 5, ground := Ground.phase }, { on := 6, ground := Ground.textOnly Departure.lateStores }, { on := 7, ground := Ground.phase }], guard := none }) rfl (fun K hK => ?_) AllReadyH.nil)
                first
                  | (have HEB := (OwnC.new w2 [.int .i64 0, .slice none 0 0, .slice none 0 0] 28 _ rfl).keep (grew_trans (grew_drew (grew_refl _)) (grew_trans HR4.out HR5.out)); have e0 : w5.cell? ⟨w2.heap.size, 0, none⟩ = some (.int .i64 0) := HEB.at 0 _ rfl; have g0 : w5.frozen? ⟨w2.heap.size, 0, none⟩ = false := HEB.fr 0 (by show 0 < 3; omega); have e1 : w5.cell? ⟨w2.heap.size, 1, none⟩ = some (.slice none 0 0) := HEB.at 1 _ rfl; have g1 : w5.frozen? ⟨w2.heap.size, 1, none⟩ = false := HEB.fr 1 (by show 1 < 3; omega); have e2 : w5.cell? ⟨w2.heap.size, 2, none⟩ = some (.slice none 0 0) := HEB.at 2 _ rfl; have g2 : w5.frozen? ⟨w2.heap.size, 2, none⟩ = false := HEB.fr 2 (by show 2 < 3; omega); clear HEB)
                  | (have HEB := (OwnC.new w4 [.int .i64 0, .slice none 0 0, .slice none 0 0] 28 _ rfl).keep HR5.out; have e0 : w5.cell? ⟨w4.heap.size, 0, none⟩ = some (.int .i64 0) := HEB.at 0 _ rfl; have g0 : w5.frozen? ⟨w4.heap.size, 0, none⟩ = false := HEB.fr 0 (by show 0 < 3; omega); have e1 : w5.cell? ⟨w4.heap.size, 1, none⟩ = some (.slice none 0 0) := HEB.at 1 _ rfl; have g1 : w5.frozen? ⟨w4.heap.size, 1, none⟩ = false := HEB.fr 1 (by show 1 < 3; omega); have e2 : w5.cell? ⟨w4.heap.size, 2, none⟩ = some (.slice none 0 0) := HEB.at 2 _ rfl; have g2 : w5.frozen? ⟨w4.heap.size, 2, none⟩ = false := HEB.fr 2 (by show 2 < 3; omega); clear HEB)
                  | skip
                go_simp
                refine hK.out _ _ ?_ (fun hHeld => ?_)
                · first
                  | exact HS.out _ (grew_trans HG5.out (grew_alloc _ _ _))
                  | exact HSO.out _ (OwnC.putO (b2 := w2.heap.size) (by omega) [.int .i64 0, .slice A' 0 c', .slice A'' 0 c''] 0 _ (HX2.out.keep HG5.out)) (OwnC.putO (b2 := w2.heap.size) (by omega) [.int .i64 0, .slice A' 0 c', .slice A'' 0 c''] 0 _ (HT2.out.keep HG5.out))
                  | exact HSO.out _ (OwnC.putO (b2 := w4.heap.size) (by omega) [.int .i64 0, .slice A' 0 c', .slice A'' 0 c''] 0 _ (HX2.out.keep HG5.out)) (OwnC.putO (b2 := w4.heap.size) (by omega) [.int .i64 0, .slice A' 0 c', .slice A'' 0 c''] 0 _ (HT2.out.keep HG5.out))
                clear hK K
                try simp only [Act.put, List.setIfInBounds_toArray, List.set_cons_zero, List.set_cons_succ]
                (refine wpAnyH_take (i := 9) (oi := { dst := some 9, op := Op.assign (Operand.tmp 38), type := 34, pos := "book.go:68", after := #[{ on := 6, ground := Ground.data }, { on := 8, ground := Ground.chain }, { on := 0, ground := Ground.phase }, { on := 1, ground := Ground.phase }, { on := 2, ground := Ground.phase }, { on := 3, ground := Ground.phase }, { on := 4, ground := Ground.phase }, { on := 5, ground := Ground.phase }, { on := 6, ground := Ground.phase }, { on := 7, ground := Ground.phase }, { on := 8, ground := Ground.phase }], guard := none }) (v := ?_) rfl (by kernel_rfl) (by kernel_rfl) (by kernel_rfl) (fun _ _ _ h => h) (Or.inl ⟨by rfl, ?_⟩) (by assumption) ?_; rotate_left; · (intro w hSw; (try dsimp only at hSw); go_simp; (first | done | with_reducible rfl)))
                try simp only [Act.put, List.setIfInBounds_toArray, List.set_cons_zero, List.set_cons_succ]
                refine wpAnyH_done (by kernel_rfl) ?_ _
                clear hHeld
                first
                  | (have hsb : w2.heap.size + 1 ≤ w4.heap.size := (by have h9 := (HR4.out : Below _ _ _).size; simp at h9; omega); have HA : Hid (AtE w ((((w5).setCell ⟨w2.heap.size, 0, none⟩ (.int .i64 0)).setCell ⟨w2.heap.size, 1, none⟩ (.slice A' 0 c')).setCell ⟨w2.heap.size, 2, none⟩ (.slice A'' 0 c'')) (w2.heap.size) (w.heap.size + 1) (w.heap.size + 1 + 1) [.int .i64 0, .slice A' 0 c', .slice A'' 0 c''] [.int .i64 q1, .int .i64 q2, .int .i64 q3, .int .i64 q4, .int .i64 q5, .int .i64 q6, .bool q7] [.int .i64 0, .slice none 0 0, .slice none 0 0] A' A'' 0 0 c' c'' [] []) := AtE.new (b := bk0) (vs := [.int .i64 0, .slice A' 0 c', .slice A'' 0 c'']) (((OwnC.new w2 [.int .i64 0, .slice none 0 0, .slice none 0 0] 28 _ rfl).keep (grew_trans (grew_drew (grew_refl _)) (grew_trans HR4.out HR5.out)))) (HT2.out.keep HG5.out) (HZ2.out.keep HG5.out) (HB5.out) (by omega) (fun x hx => by have := (HB5.out.t.block x hx).1; omega) (fun x hx => by have := (HB5.out.p.block x hx).1; omega) (grew_trans HG2.out HG5.out) ⟨by omega, by omega, by omega⟩ rfl; generalize (((w5).setCell ⟨w2.heap.size, 0, none⟩ (.int .i64 0)).setCell ⟨w2.heap.size, 1, none⟩ (.slice A' 0 c')).setCell ⟨w2.heap.size, 2, none⟩ (.slice A'' 0 c'') = wE at *; generalize hE : w2.heap.size = E at *)
                  | (have hsc : w4.heap.size + 1 ≤ (w4.alloc (.cells #[.int .i64 0, .slice none 0 0, .slice none 0 0] 28)).heap.size := (by simp); have HA : Hid (AtE w ((((w5).setCell ⟨w4.heap.size, 0, none⟩ (.int .i64 0)).setCell ⟨w4.heap.size, 1, none⟩ (.slice A' 0 c')).setCell ⟨w4.heap.size, 2, none⟩ (.slice A'' 0 c'')) (w4.heap.size) (w.heap.size + 1) (w.heap.size + 1 + 1) [.int .i64 0, .slice A' 0 c', .slice A'' 0 c''] [.int .i64 q1, .int .i64 q2, .int .i64 q3, .int .i64 q4, .int .i64 q5, .int .i64 q6, .bool q7] [.int .i64 0, .slice none 0 0, .slice none 0 0] A' A'' 0 0 c' c'' [] []) := AtE.new (b := bk0) (vs := [.int .i64 0, .slice A' 0 c', .slice A'' 0 c'']) (((OwnC.new w4 [.int .i64 0, .slice none 0 0, .slice none 0 0] 28 _ rfl).keep HR5.out)) (HT2.out.keep HG5.out) (HZ2.out.keep HG5.out) (HB5.out) (by omega) (fun x hx => by have := (HB5.out.t.block x hx).1; omega) (fun x hx => by have := (HB5.out.p.block x hx).1; omega) (grew_trans HG2.out HG5.out) ⟨by omega, by omega, by omega⟩ rfl; generalize (((w5).setCell ⟨w4.heap.size, 0, none⟩ (.int .i64 0)).setCell ⟨w4.heap.size, 1, none⟩ (.slice A' 0 c')).setCell ⟨w4.heap.size, 2, none⟩ (.slice A'' 0 c'') = wE at *; generalize hE : w4.heap.size = E at *)
                  | (have HA : Hid (AtE w (w5.alloc (.cells #[.int .i64 0, .slice A' 0 c', .slice A'' 0 c''] 28)) (w5.heap.size) (w.heap.size + 1) (w.heap.size + 1 + 1) [.int .i64 0, .slice A' 0 c', .slice A'' 0 c''] [.int .i64 q1, .int .i64 q2, .int .i64 q3, .int .i64 q4, .int .i64 q5, .int .i64 q6, .bool q7] [.int .i64 0, .slice none 0 0, .slice none 0 0] A' A'' 0 0 c' c'' [] []) := AtE.lay (b := bk0) (vs := [.int .i64 0, .slice A' 0 c', .slice A'' 0 c'']) (OwnC.new w5 [.int .i64 0, .slice A' 0 c', .slice A'' 0 c''] _ _ rfl) ((HT2.out.keep HG5.out).keep (grew_alloc _ _ _)) ((HZ2.out.keep HG5.out).keep (grew_alloc _ _ _)) (HB5.out.keep (grew_alloc _ _ _)) (by omega) (fun x hx => by have := (HB5.out.t.block x hx).2; omega) (fun x hx => by have := (HB5.out.p.block x hx).2; omega) (grew_trans HG2.out (grew_trans HG5.out (grew_alloc _ _ _))) ⟨by omega, by omega, by omega⟩; generalize w5.alloc (.cells #[.int .i64 0, .slice A' 0 c', .slice A'' 0 c''] 28) = wE at *; generalize hE : w5.heap.size = E at *)
                clear HS HSO HB5 HO4 HG5 HR5 HG4 HR4 HS4 HS5
                have y0 : wE.cell? ⟨w.heap.size + 1 + 1, 0, none⟩ = some (.int .i64 0) := HA.out.cz.at 0 _ rfl
                have y1 : wE.cell? ⟨w.heap.size + 1 + 1, 1, none⟩ = some (.slice none 0 0) := HA.out.cz.at 1 _ rfl
                have y2 : wE.cell? ⟨w.heap.size + 1 + 1, 2, none⟩ = some (.slice none 0 0) := HA.out.cz.at 2 _ rfl
                have f0 : wE.frozen? ⟨w.heap.size + 1 + 1, 0, none⟩ = false := HA.out.cz.fr 0 (by show 0 < 3; omega)
                have f1 : wE.frozen? ⟨w.heap.size + 1 + 1, 1, none⟩ = false := HA.out.cz.fr 1 (by show 1 < 3; omega)
                have f2 : wE.frozen? ⟨w.heap.size + 1 + 1, 2, none⟩ = false := HA.out.cz.fr 2 (by show 2 < 3; omega)
                apply_assumption
                go_wp2
                have HAZ := HA.out.putZ [.int .i64 0, .slice none 0 0, .slice none 0 0] rfl
                have HP := HAZ.cz
                have HGP := HAZ.gr
                change bodyPost _ _ _ _ _ (putC wE (w.heap.size + 1 + 1) 0 [.int .i64 0, .slice none 0 0, .slice none 0 0])
                clear y0 y1 y2 f0 f1 f2 HAZ
                generalize putC wE (w.heap.size + 1 + 1) 0 [.int .i64 0, .slice none 0 0, .slice none 0 0] = w9 at *
                have z0 : w9.cell? ⟨w.heap.size + 1 + 1, 0, none⟩ = _ := HP.at 0 _ rfl
                have z1 : w9.cell? ⟨w.heap.size + 1 + 1, 1, none⟩ = _ := HP.at 1 _ rfl
                have z2 : w9.cell? ⟨w.heap.size + 1 + 1, 2, none⟩ = _ := HP.at 2 _ rfl
                refine bodyPost_ret (v := .tuple #[.agg #[.int .i64 0, .slice none 0 0, .slice none 0 0], .int .i64 0, .int .i64 ae]) (by simp [results, Tryz.results30, go_sem, z0, z1, z2]) rfl ?_
                exact HF.out _ HGP
              · go_simp
                refine hK.out _ _ ?_ (fun hHeld => ?_)
                · first
                  | exact HS2a
                  | exact HS4a
                  | exact HS5a
                clear hK K
                try simp only [Act.put, List.setIfInBounds_toArray, List.set_cons_zero, List.set_cons_succ]
                refine wpAnyH_ready (rs := [3]) (by kernel_rfl) (by simp) ?_
                refine (AllReadyH.cons (o := { dst := some 36, op := Op.call { callee := Callee.value (Operand.func 52), args := #[Operand.tmp 33, Operand.tmp 35], argTypes := #[28, 26] }, type := 43, pos := "book.go:68", after := #[{ on := 0, ground := Ground.data }, { on := 2, ground := Ground.data }, { on := 2, ground := Ground.chain }], guard := none }) rfl (fun K hK => ?_) AllReadyH.nil)
                go_simp
                (go_at_call 52; (with_reducible refine (CA _ _ _ (grew_trans HG2.out (grew_trans HG4.out (by repeat (first | exact grew_refl _ | refine grew_drew ?_ | refine grew_trans ?_ (grew_alloc _ _ _))))) (HO4.out.keep (by repeat (first | exact grew_refl _ | refine grew_drew ?_ | refine grew_trans ?_ (grew_alloc _ _ _))))).mono ?_); rintro e w5 ⟨A', A'', c', c'', rfl, hb, hg⟩; have HB5 := Lib.hid hb; have HR5 := Lib.hid hg; have HG5 : Hid (Grew w2 w5) := grew_trans HG4.out (grew_trans (by repeat (first | exact grew_refl _ | refine grew_drew ?_ | refine grew_trans ?_ (grew_alloc _ _ _))) hg); have HS5 := HS.out _ HG5.out; have HS5a := HS.out _ (grew_trans HG5.out (grew_alloc w5 #[.int .i64 0, .slice none 0 0, .slice none 0 0] 28)); have hs5 : w4.heap.size ≤ w5.heap.size := (grew_trans (c := w5) (by repeat (first | exact grew_refl _ | refine grew_drew ?_ | refine grew_trans ?_ (grew_alloc _ _ _))) hg : Grew w4 w5).size; clear hb hg)
                refine hK.out _ _ ?_ (fun hHeld => ?_)
                · first
                  | exact HS5
                clear hK K
                try simp only [Act.put, List.setIfInBounds_toArray, List.set_cons_zero, List.set_cons_succ]
                (refine wpAnyH_take (i := 4) (oi := { dst := some 32, op := Op.move (Operand.tmp 36), type := 43, pos := "book.go:68", after := #[{ on := 3, ground := Ground.data }], guard := none }) (v := ?_) rfl (by kernel_rfl) (by kernel_rfl) (by kernel_rfl) (fun _ _ _ h => h) (Or.inl ⟨by rfl, ?_⟩) (by assumption) ?_; rotate_left; · (intro w hSw; (try dsimp only at hSw); go_simp; (first | done | with_reducible rfl)))
                try simp only [Act.put, List.setIfInBounds_toArray, List.set_cons_zero, List.set_cons_succ]
                (refine wpAnyH_take (i := 5) (oi := { dst := some 37, op := Op.extract (Operand.tmp 32) 0, type := 28, pos := "book.go:68", after := #[{ on := 4, ground := Ground.data }], guard := none }) (v := ?_) rfl (by kernel_rfl) (by kernel_rfl) (by kernel_rfl) (fun _ _ _ h => h) (Or.inl ⟨by rfl, ?_⟩) (by assumption) ?_; rotate_left; · (intro w hSw; (try dsimp only at hSw); go_simp; (first | done | with_reducible rfl)))
                try simp only [Act.put, List.setIfInBounds_toArray, List.set_cons_zero, List.set_cons_succ]
                (refine wpAnyH_take (i := 6) (oi := { dst := some 38, op := Op.extract (Operand.tmp 32) 1, type := 34, pos := "book.go:68", after := #[{ on := 4, ground := Ground.data }, { on := 8, ground := Ground.gcOnly Departure.lateStores }], guard := none }) (v := ?_) rfl (by kernel_rfl) (by kernel_rfl) (by kernel_rfl) (fun _ _ _ h => h) (Or.inl ⟨by rfl, ?_⟩) (by assumption) ?_; rotate_left; · (intro w hSw; (try dsimp only at hSw); go_simp; (first | done | with_reducible rfl)))
                try simp only [Act.put, List.setIfInBounds_toArray, List.set_cons_zero, List.set_cons_succ]
                refine wpAnyH_ready (rs := [8]) (by kernel_rfl) (by simp) ?_
                refine (AllReadyH.cons (o := { dst := none, op := Op.store 28 (Operand.tmp 8) (Operand.tmp 37), type := 0, pos := "book.go:68", after := #[{ on := 7, ground := Ground.data }, { on := 5, ground := Ground.data }, { on := 3, ground := Ground.chain }, { on := 0, ground := Ground.phase }, { on := 1, ground := Ground.phase }, { on := 2, ground := Ground.phase }, { on := 3, ground := Ground.phase }, { on := 4, ground := Ground.phase }, { on := 5, ground := Ground.phase }, { on := 6, ground := Ground.textOnly Departure.lateStores }, { on := 7, ground := Ground.phase }], guard := none }) rfl (fun K hK => ?_) AllReadyH.nil)
                first
                  | (have HEB := (OwnC.new w2 [.int .i64 0, .slice none 0 0, .slice none 0 0] 28 _ rfl).keep (grew_trans (grew_drew (grew_refl _)) (grew_trans HR4.out HR5.out)); have e0 : w5.cell? ⟨w2.heap.size, 0, none⟩ = some (.int .i64 0) := HEB.at 0 _ rfl; have g0 : w5.frozen? ⟨w2.heap.size, 0, none⟩ = false := HEB.fr 0 (by show 0 < 3; omega); have e1 : w5.cell? ⟨w2.heap.size, 1, none⟩ = some (.slice none 0 0) := HEB.at 1 _ rfl; have g1 : w5.frozen? ⟨w2.heap.size, 1, none⟩ = false := HEB.fr 1 (by show 1 < 3; omega); have e2 : w5.cell? ⟨w2.heap.size, 2, none⟩ = some (.slice none 0 0) := HEB.at 2 _ rfl; have g2 : w5.frozen? ⟨w2.heap.size, 2, none⟩ = false := HEB.fr 2 (by show 2 < 3; omega); clear HEB)
                  | (have HEB := (OwnC.new w4 [.int .i64 0, .slice none 0 0, .slice none 0 0] 28 _ rfl).keep HR5.out; have e0 : w5.cell? ⟨w4.heap.size, 0, none⟩ = some (.int .i64 0) := HEB.at 0 _ rfl; have g0 : w5.frozen? ⟨w4.heap.size, 0, none⟩ = false := HEB.fr 0 (by show 0 < 3; omega); have e1 : w5.cell? ⟨w4.heap.size, 1, none⟩ = some (.slice none 0 0) := HEB.at 1 _ rfl; have g1 : w5.frozen? ⟨w4.heap.size, 1, none⟩ = false := HEB.fr 1 (by show 1 < 3; omega); have e2 : w5.cell? ⟨w4.heap.size, 2, none⟩ = some (.slice none 0 0) := HEB.at 2 _ rfl; have g2 : w5.frozen? ⟨w4.heap.size, 2, none⟩ = false := HEB.fr 2 (by show 2 < 3; omega); clear HEB)
                  | skip
                go_simp
                refine hK.out _ _ ?_ (fun hHeld => ?_)
                · first
                  | exact HS.out _ (grew_trans HG5.out (grew_alloc _ _ _))
                  | exact HSO.out _ (OwnC.putO (b2 := w2.heap.size) (by omega) [.int .i64 0, .slice A' 0 c', .slice A'' 0 c''] 0 _ (HX2.out.keep HG5.out)) (OwnC.putO (b2 := w2.heap.size) (by omega) [.int .i64 0, .slice A' 0 c', .slice A'' 0 c''] 0 _ (HT2.out.keep HG5.out))
                  | exact HSO.out _ (OwnC.putO (b2 := w4.heap.size) (by omega) [.int .i64 0, .slice A' 0 c', .slice A'' 0 c''] 0 _ (HX2.out.keep HG5.out)) (OwnC.putO (b2 := w4.heap.size) (by omega) [.int .i64 0, .slice A' 0 c', .slice A'' 0 c''] 0 _ (HT2.out.keep HG5.out))
                clear hK K
                try simp only [Act.put, List.setIfInBounds_toArray, List.set_cons_zero, List.set_cons_succ]
                (refine wpAnyH_take (i := 9) (oi := { dst := some 9, op := Op.assign (Operand.tmp 38), type := 34, pos := "book.go:68", after := #[{ on := 6, ground := Ground.data }, { on := 8, ground := Ground.chain }, { on := 0, ground := Ground.phase }, { on := 1, ground := Ground.phase }, { on := 2, ground := Ground.phase }, { on := 3, ground := Ground.phase }, { on := 4, ground := Ground.phase }, { on := 5, ground := Ground.phase }, { on := 6, ground := Ground.phase }, { on := 7, ground := Ground.phase }, { on := 8, ground := Ground.phase }], guard := none }) (v := ?_) rfl (by kernel_rfl) (by kernel_rfl) (by kernel_rfl) (fun _ _ _ h => h) (Or.inl ⟨by rfl, ?_⟩) (by assumption) ?_; rotate_left; · (intro w hSw; (try dsimp only at hSw); go_simp; (first | done | with_reducible rfl)))
                try simp only [Act.put, List.setIfInBounds_toArray, List.set_cons_zero, List.set_cons_succ]
                refine wpAnyH_done (by kernel_rfl) ?_ _
                clear hHeld
                first
                  | (have hsb : w2.heap.size + 1 ≤ w4.heap.size := (by have h9 := (HR4.out : Below _ _ _).size; simp at h9; omega); have HA : Hid (AtE w ((((w5).setCell ⟨w2.heap.size, 0, none⟩ (.int .i64 0)).setCell ⟨w2.heap.size, 1, none⟩ (.slice A' 0 c')).setCell ⟨w2.heap.size, 2, none⟩ (.slice A'' 0 c'')) (w2.heap.size) (w.heap.size + 1) (w.heap.size + 1 + 1) [.int .i64 0, .slice A' 0 c', .slice A'' 0 c''] [.int .i64 q1, .int .i64 q2, .int .i64 q3, .int .i64 q4, .int .i64 q5, .int .i64 q6, .bool q7] [.int .i64 0, .slice none 0 0, .slice none 0 0] A' A'' 0 0 c' c'' [] []) := AtE.new (b := bk0) (vs := [.int .i64 0, .slice A' 0 c', .slice A'' 0 c'']) (((OwnC.new w2 [.int .i64 0, .slice none 0 0, .slice none 0 0] 28 _ rfl).keep (grew_trans (grew_drew (grew_refl _)) (grew_trans HR4.out HR5.out)))) (HT2.out.keep HG5.out) (HZ2.out.keep HG5.out) (HB5.out) (by omega) (fun x hx => by have := (HB5.out.t.block x hx).1; omega) (fun x hx => by have := (HB5.out.p.block x hx).1; omega) (grew_trans HG2.out HG5.out) ⟨by omega, by omega, by omega⟩ rfl; generalize (((w5).setCell ⟨w2.heap.size, 0, none⟩ (.int .i64 0)).setCell ⟨w2.heap.size, 1, none⟩ (.slice A' 0 c')).setCell ⟨w2.heap.size, 2, none⟩ (.slice A'' 0 c'') = wE at *; generalize hE : w2.heap.size = E at *)
                  | (have hsc : w4.heap.size + 1 ≤ (w4.alloc (.cells #[.int .i64 0, .slice none 0 0, .slice none 0 0] 28)).heap.size := (by simp); have HA : Hid (AtE w ((((w5).setCell ⟨w4.heap.size, 0, none⟩ (.int .i64 0)).setCell ⟨w4.heap.size, 1, none⟩ (.slice A' 0 c')).setCell ⟨w4.heap.size, 2, none⟩ (.slice A'' 0 c'')) (w4.heap.size) (w.heap.size + 1) (w.heap.size + 1 + 1) [.int .i64 0, .slice A' 0 c', .slice A'' 0 c''] [.int .i64 q1, .int .i64 q2, .int .i64 q3, .int .i64 q4, .int .i64 q5, .int .i64 q6, .bool q7] [.int .i64 0, .slice none 0 0, .slice none 0 0] A' A'' 0 0 c' c'' [] []) := AtE.new (b := bk0) (vs := [.int .i64 0, .slice A' 0 c', .slice A'' 0 c'']) (((OwnC.new w4 [.int .i64 0, .slice none 0 0, .slice none 0 0] 28 _ rfl).keep HR5.out)) (HT2.out.keep HG5.out) (HZ2.out.keep HG5.out) (HB5.out) (by omega) (fun x hx => by have := (HB5.out.t.block x hx).1; omega) (fun x hx => by have := (HB5.out.p.block x hx).1; omega) (grew_trans HG2.out HG5.out) ⟨by omega, by omega, by omega⟩ rfl; generalize (((w5).setCell ⟨w4.heap.size, 0, none⟩ (.int .i64 0)).setCell ⟨w4.heap.size, 1, none⟩ (.slice A' 0 c')).setCell ⟨w4.heap.size, 2, none⟩ (.slice A'' 0 c'') = wE at *; generalize hE : w4.heap.size = E at *)
                  | (have HA : Hid (AtE w (w5.alloc (.cells #[.int .i64 0, .slice A' 0 c', .slice A'' 0 c''] 28)) (w5.heap.size) (w.heap.size + 1) (w.heap.size + 1 + 1) [.int .i64 0, .slice A' 0 c', .slice A'' 0 c''] [.int .i64 q1, .int .i64 q2, .int .i64 q3, .int .i64 q4, .int .i64 q5, .int .i64 q6, .bool q7] [.int .i64 0, .slice none 0 0, .slice none 0 0] A' A'' 0 0 c' c'' [] []) := AtE.lay (b := bk0) (vs := [.int .i64 0, .slice A' 0 c', .slice A'' 0 c'']) (OwnC.new w5 [.int .i64 0, .slice A' 0 c', .slice A'' 0 c''] _ _ rfl) ((HT2.out.keep HG5.out).keep (grew_alloc _ _ _)) ((HZ2.out.keep HG5.out).keep (grew_alloc _ _ _)) (HB5.out.keep (grew_alloc _ _ _)) (by omega) (fun x hx => by have := (HB5.out.t.block x hx).2; omega) (fun x hx => by have := (HB5.out.p.block x hx).2; omega) (grew_trans HG2.out (grew_trans HG5.out (grew_alloc _ _ _))) ⟨by omega, by omega, by omega⟩; generalize w5.alloc (.cells #[.int .i64 0, .slice A' 0 c', .slice A'' 0 c''] 28) = wE at *; generalize hE : w5.heap.size = E at *)
                clear HS HSO HB5 HO4 HG5 HR5 HG4 HR4 HS4 HS5
                have y0 : wE.cell? ⟨w.heap.size + 1 + 1, 0, none⟩ = some (.int .i64 0) := HA.out.cz.at 0 _ rfl
                have y1 : wE.cell? ⟨w.heap.size + 1 + 1, 1, none⟩ = some (.slice none 0 0) := HA.out.cz.at 1 _ rfl
                have y2 : wE.cell? ⟨w.heap.size + 1 + 1, 2, none⟩ = some (.slice none 0 0) := HA.out.cz.at 2 _ rfl
                have f0 : wE.frozen? ⟨w.heap.size + 1 + 1, 0, none⟩ = false := HA.out.cz.fr 0 (by show 0 < 3; omega)
                have f1 : wE.frozen? ⟨w.heap.size + 1 + 1, 1, none⟩ = false := HA.out.cz.fr 1 (by show 1 < 3; omega)
                have f2 : wE.frozen? ⟨w.heap.size + 1 + 1, 2, none⟩ = false := HA.out.cz.fr 2 (by show 2 < 3; omega)
                apply_assumption
                go_wp2
                have HAZ := HA.out.putZ [.int .i64 0, .slice none 0 0, .slice none 0 0] rfl
                have HP := HAZ.cz
                have HGP := HAZ.gr
                change bodyPost _ _ _ _ _ (putC wE (w.heap.size + 1 + 1) 0 [.int .i64 0, .slice none 0 0, .slice none 0 0])
                clear y0 y1 y2 f0 f1 f2 HAZ
                generalize putC wE (w.heap.size + 1 + 1) 0 [.int .i64 0, .slice none 0 0, .slice none 0 0] = w9 at *
                have z0 : w9.cell? ⟨w.heap.size + 1 + 1, 0, none⟩ = _ := HP.at 0 _ rfl
                have z1 : w9.cell? ⟨w.heap.size + 1 + 1, 1, none⟩ = _ := HP.at 1 _ rfl
                have z2 : w9.cell? ⟨w.heap.size + 1 + 1, 2, none⟩ = _ := HP.at 2 _ rfl
                refine bodyPost_ret (v := .tuple #[.agg #[.int .i64 0, .slice none 0 0, .slice none 0 0], .int .i64 0, .int .i64 ae]) (by simp [results, Tryz.results30, go_sem, z0, z1, z2]) rfl ?_
                exact HF.out _ HGP
            · go_simp
              refine hK.out _ _ ?_ (fun hHeld => ?_)
              · first
                | exact HS2a
                | exact HS4a
                | exact HS5a
              clear hK K
              try simp only [Act.put, List.setIfInBounds_toArray, List.set_cons_zero, List.set_cons_succ]
              refine wpAnyH_ready (rs := [2]) (by kernel_rfl) (by simp) ?_
              refine (AllReadyH.cons (o := { dst := some 35, op := Op.call { callee := Callee.value (Operand.func 56), args := #[Operand.tmp 34], argTypes := #[50] }, type := 26, pos := "book.go:68", after := #[{ on := 1, ground := Ground.data }], guard := none }) rfl (fun K hK => ?_) AllReadyH.nil)
              go_simp
              (go_at_call 56; (with_reducible refine (CL _).mono ?_); rintro e w4 ⟨A3, c3, rfl, ho, hg⟩; have HR4 := Lib.hid hg; have HG4 : Hid (Grew w2 w4) := grew_trans (by repeat (first | exact grew_refl _ | refine grew_drew ?_ | refine grew_trans ?_ (grew_alloc _ _ _))) hg; have HS4 := HS.out _ HG4.out; have HS4a := HS.out _ (grew_trans HG4.out (grew_alloc w4 #[.int .i64 0, .slice none 0 0, .slice none 0 0] 28)); have hs4 : w2.heap.size ≤ w4.heap.size := HG4.out.size; have HO4 := Lib.hid (ho.mono (Nat.zero_le _)); clear ho hg)
              refine hK.out _ _ ?_ (fun hHeld => ?_)
              · first
                | exact HS4
              clear hK K
              try simp only [Act.put, List.setIfInBounds_toArray, List.set_cons_zero, List.set_cons_succ]
              refine wpAnyH_ready (rs := [3]) (by kernel_rfl) (by simp) ?_
              refine (AllReadyH.cons (o := { dst := some 36, op := Op.call { callee := Callee.value (Operand.func 52), args := #[Operand.tmp 33, Operand.tmp 35], argTypes := #[28, 26] }, type := 43, pos := "book.go:68", after := #[{ on := 0, ground := Ground.data }, { on := 2, ground := Ground.data }, { on := 2, ground := Ground.chain }], guard := none }) rfl (fun K hK => ?_) AllReadyH.nil)
              go_simp
              (go_at_call 52; (with_reducible refine (CA _ _ _ (grew_trans HG2.out (grew_trans HG4.out (by repeat (first | exact grew_refl _ | refine grew_drew ?_ | refine grew_trans ?_ (grew_alloc _ _ _))))) (HO4.out.keep (by repeat (first | exact grew_refl _ | refine grew_drew ?_ | refine grew_trans ?_ (grew_alloc _ _ _))))).mono ?_); rintro e w5 ⟨A', A'', c', c'', rfl, hb, hg⟩; have HB5 := Lib.hid hb; have HR5 := Lib.hid hg; have HG5 : Hid (Grew w2 w5) := grew_trans HG4.out (grew_trans (by repeat (first | exact grew_refl _ | refine grew_drew ?_ | refine grew_trans ?_ (grew_alloc _ _ _))) hg); have HS5 := HS.out _ HG5.out; have HS5a := HS.out _ (grew_trans HG5.out (grew_alloc w5 #[.int .i64 0, .slice none 0 0, .slice none 0 0] 28)); have hs5 : w4.heap.size ≤ w5.heap.size := (grew_trans (c := w5) (by repeat (first | exact grew_refl _ | refine grew_drew ?_ | refine grew_trans ?_ (grew_alloc _ _ _))) hg : Grew w4 w5).size; clear hb hg)
              refine hK.out _ _ ?_ (fun hHeld => ?_)
              · first
                | exact HS5
              clear hK K
              try simp only [Act.put, List.setIfInBounds_toArray, List.set_cons_zero, List.set_cons_succ]
              (refine wpAnyH_take (i := 4) (oi := { dst := some 32, op := Op.move (Operand.tmp 36), type := 43, pos := "book.go:68", after := #[{ on := 3, ground := Ground.data }], guard := none }) (v := ?_) rfl (by kernel_rfl) (by kernel_rfl) (by kernel_rfl) (fun _ _ _ h => h) (Or.inl ⟨by rfl, ?_⟩) (by assumption) ?_; rotate_left; · (intro w hSw; (try dsimp only at hSw); go_simp; (first | done | with_reducible rfl)))
              try simp only [Act.put, List.setIfInBounds_toArray, List.set_cons_zero, List.set_cons_succ]
              (refine wpAnyH_take (i := 5) (oi := { dst := some 37, op := Op.extract (Operand.tmp 32) 0, type := 28, pos := "book.go:68", after := #[{ on := 4, ground := Ground.data }], guard := none }) (v := ?_) rfl (by kernel_rfl) (by kernel_rfl) (by kernel_rfl) (fun _ _ _ h => h) (Or.inl ⟨by rfl, ?_⟩) (by assumption) ?_; rotate_left; · (intro w hSw; (try dsimp only at hSw); go_simp; (first | done | with_reducible rfl)))
              try simp only [Act.put, List.setIfInBounds_toArray, List.set_cons_zero, List.set_cons_succ]
              (refine wpAnyH_take (i := 6) (oi := { dst := some 38, op := Op.extract (Operand.tmp 32) 1, type := 34, pos := "book.go:68", after := #[{ on := 4, ground := Ground.data }, { on := 8, ground := Ground.gcOnly Departure.lateStores }], guard := none }) (v := ?_) rfl (by kernel_rfl) (by kernel_rfl) (by kernel_rfl) (fun _ _ _ h => h) (Or.inl ⟨by rfl, ?_⟩) (by assumption) ?_; rotate_left; · (intro w hSw; (try dsimp only at hSw); go_simp; (first | done | with_reducible rfl)))
              try simp only [Act.put, List.setIfInBounds_toArray, List.set_cons_zero, List.set_cons_succ]
              refine wpAnyH_ready (rs := [8]) (by kernel_rfl) (by simp) ?_
              refine (AllReadyH.cons (o := { dst := none, op := Op.store 28 (Operand.tmp 8) (Operand.tmp 37), type := 0, pos := "book.go:68", after := #[{ on := 7, ground := Ground.data }, { on := 5, ground := Ground.data }, { on := 3, ground := Ground.chain }, { on := 0, ground := Ground.phase }, { on := 1, ground := Ground.phase }, { on := 2, ground := Ground.phase }, { on := 3, ground := Ground.phase }, { on := 4, ground := Ground.phase }, { on := 5, ground := Ground.phase }, { on := 6, ground := Ground.textOnly Departure.lateStores }, { on := 7, ground := Ground.phase }], guard := none }) rfl (fun K hK => ?_) AllReadyH.nil)
              first
                | (have HEB := (OwnC.new w2 [.int .i64 0, .slice none 0 0, .slice none 0 0] 28 _ rfl).keep (grew_trans (grew_drew (grew_refl _)) (grew_trans HR4.out HR5.out)); have e0 : w5.cell? ⟨w2.heap.size, 0, none⟩ = some (.int .i64 0) := HEB.at 0 _ rfl; have g0 : w5.frozen? ⟨w2.heap.size, 0, none⟩ = false := HEB.fr 0 (by show 0 < 3; omega); have e1 : w5.cell? ⟨w2.heap.size, 1, none⟩ = some (.slice none 0 0) := HEB.at 1 _ rfl; have g1 : w5.frozen? ⟨w2.heap.size, 1, none⟩ = false := HEB.fr 1 (by show 1 < 3; omega); have e2 : w5.cell? ⟨w2.heap.size, 2, none⟩ = some (.slice none 0 0) := HEB.at 2 _ rfl; have g2 : w5.frozen? ⟨w2.heap.size, 2, none⟩ = false := HEB.fr 2 (by show 2 < 3; omega); clear HEB)
                | (have HEB := (OwnC.new w4 [.int .i64 0, .slice none 0 0, .slice none 0 0] 28 _ rfl).keep HR5.out; have e0 : w5.cell? ⟨w4.heap.size, 0, none⟩ = some (.int .i64 0) := HEB.at 0 _ rfl; have g0 : w5.frozen? ⟨w4.heap.size, 0, none⟩ = false := HEB.fr 0 (by show 0 < 3; omega); have e1 : w5.cell? ⟨w4.heap.size, 1, none⟩ = some (.slice none 0 0) := HEB.at 1 _ rfl; have g1 : w5.frozen? ⟨w4.heap.size, 1, none⟩ = false := HEB.fr 1 (by show 1 < 3; omega); have e2 : w5.cell? ⟨w4.heap.size, 2, none⟩ = some (.slice none 0 0) := HEB.at 2 _ rfl; have g2 : w5.frozen? ⟨w4.heap.size, 2, none⟩ = false := HEB.fr 2 (by show 2 < 3; omega); clear HEB)
                | skip
              go_simp
              refine hK.out _ _ ?_ (fun hHeld => ?_)
              · first
                | exact HS.out _ (grew_trans HG5.out (grew_alloc _ _ _))
                | exact HSO.out _ (OwnC.putO (b2 := w2.heap.size) (by omega) [.int .i64 0, .slice A' 0 c', .slice A'' 0 c''] 0 _ (HX2.out.keep HG5.out)) (OwnC.putO (b2 := w2.heap.size) (by omega) [.int .i64 0, .slice A' 0 c', .slice A'' 0 c''] 0 _ (HT2.out.keep HG5.out))
                | exact HSO.out _ (OwnC.putO (b2 := w4.heap.size) (by omega) [.int .i64 0, .slice A' 0 c', .slice A'' 0 c''] 0 _ (HX2.out.keep HG5.out)) (OwnC.putO (b2 := w4.heap.size) (by omega) [.int .i64 0, .slice A' 0 c', .slice A'' 0 c''] 0 _ (HT2.out.keep HG5.out))
              clear hK K
              try simp only [Act.put, List.setIfInBounds_toArray, List.set_cons_zero, List.set_cons_succ]
              (refine wpAnyH_take (i := 9) (oi := { dst := some 9, op := Op.assign (Operand.tmp 38), type := 34, pos := "book.go:68", after := #[{ on := 6, ground := Ground.data }, { on := 8, ground := Ground.chain }, { on := 0, ground := Ground.phase }, { on := 1, ground := Ground.phase }, { on := 2, ground := Ground.phase }, { on := 3, ground := Ground.phase }, { on := 4, ground := Ground.phase }, { on := 5, ground := Ground.phase }, { on := 6, ground := Ground.phase }, { on := 7, ground := Ground.phase }, { on := 8, ground := Ground.phase }], guard := none }) (v := ?_) rfl (by kernel_rfl) (by kernel_rfl) (by kernel_rfl) (fun _ _ _ h => h) (Or.inl ⟨by rfl, ?_⟩) (by assumption) ?_; rotate_left; · (intro w hSw; (try dsimp only at hSw); go_simp; (first | done | with_reducible rfl)))
              try simp only [Act.put, List.setIfInBounds_toArray, List.set_cons_zero, List.set_cons_succ]
              refine wpAnyH_done (by kernel_rfl) ?_ _
              clear hHeld
              first
                | (have hsb : w2.heap.size + 1 ≤ w4.heap.size := (by have h9 := (HR4.out : Below _ _ _).size; simp at h9; omega); have HA : Hid (AtE w ((((w5).setCell ⟨w2.heap.size, 0, none⟩ (.int .i64 0)).setCell ⟨w2.heap.size, 1, none⟩ (.slice A' 0 c')).setCell ⟨w2.heap.size, 2, none⟩ (.slice A'' 0 c'')) (w2.heap.size) (w.heap.size + 1) (w.heap.size + 1 + 1) [.int .i64 0, .slice A' 0 c', .slice A'' 0 c''] [.int .i64 q1, .int .i64 q2, .int .i64 q3, .int .i64 q4, .int .i64 q5, .int .i64 q6, .bool q7] [.int .i64 0, .slice none 0 0, .slice none 0 0] A' A'' 0 0 c' c'' [] []) := AtE.new (b := bk0) (vs := [.int .i64 0, .slice A' 0 c', .slice A'' 0 c'']) (((OwnC.new w2 [.int .i64 0, .slice none 0 0, .slice none 0 0] 28 _ rfl).keep (grew_trans (grew_drew (grew_refl _)) (grew_trans HR4.out HR5.out)))) (HT2.out.keep HG5.out) (HZ2.out.keep HG5.out) (HB5.out) (by omega) (fun x hx => by have := (HB5.out.t.block x hx).1; omega) (fun x hx => by have := (HB5.out.p.block x hx).1; omega) (grew_trans HG2.out HG5.out) ⟨by omega, by omega, by omega⟩ rfl; generalize (((w5).setCell ⟨w2.heap.size, 0, none⟩ (.int .i64 0)).setCell ⟨w2.heap.size, 1, none⟩ (.slice A' 0 c')).setCell ⟨w2.heap.size, 2, none⟩ (.slice A'' 0 c'') = wE at *; generalize hE : w2.heap.size = E at *)
                | (have hsc : w4.heap.size + 1 ≤ (w4.alloc (.cells #[.int .i64 0, .slice none 0 0, .slice none 0 0] 28)).heap.size := (by simp); have HA : Hid (AtE w ((((w5).setCell ⟨w4.heap.size, 0, none⟩ (.int .i64 0)).setCell ⟨w4.heap.size, 1, none⟩ (.slice A' 0 c')).setCell ⟨w4.heap.size, 2, none⟩ (.slice A'' 0 c'')) (w4.heap.size) (w.heap.size + 1) (w.heap.size + 1 + 1) [.int .i64 0, .slice A' 0 c', .slice A'' 0 c''] [.int .i64 q1, .int .i64 q2, .int .i64 q3, .int .i64 q4, .int .i64 q5, .int .i64 q6, .bool q7] [.int .i64 0, .slice none 0 0, .slice none 0 0] A' A'' 0 0 c' c'' [] []) := AtE.new (b := bk0) (vs := [.int .i64 0, .slice A' 0 c', .slice A'' 0 c'']) (((OwnC.new w4 [.int .i64 0, .slice none 0 0, .slice none 0 0] 28 _ rfl).keep HR5.out)) (HT2.out.keep HG5.out) (HZ2.out.keep HG5.out) (HB5.out) (by omega) (fun x hx => by have := (HB5.out.t.block x hx).1; omega) (fun x hx => by have := (HB5.out.p.block x hx).1; omega) (grew_trans HG2.out HG5.out) ⟨by omega, by omega, by omega⟩ rfl; generalize (((w5).setCell ⟨w4.heap.size, 0, none⟩ (.int .i64 0)).setCell ⟨w4.heap.size, 1, none⟩ (.slice A' 0 c')).setCell ⟨w4.heap.size, 2, none⟩ (.slice A'' 0 c'') = wE at *; generalize hE : w4.heap.size = E at *)
                | (have HA : Hid (AtE w (w5.alloc (.cells #[.int .i64 0, .slice A' 0 c', .slice A'' 0 c''] 28)) (w5.heap.size) (w.heap.size + 1) (w.heap.size + 1 + 1) [.int .i64 0, .slice A' 0 c', .slice A'' 0 c''] [.int .i64 q1, .int .i64 q2, .int .i64 q3, .int .i64 q4, .int .i64 q5, .int .i64 q6, .bool q7] [.int .i64 0, .slice none 0 0, .slice none 0 0] A' A'' 0 0 c' c'' [] []) := AtE.lay (b := bk0) (vs := [.int .i64 0, .slice A' 0 c', .slice A'' 0 c'']) (OwnC.new w5 [.int .i64 0, .slice A' 0 c', .slice A'' 0 c''] _ _ rfl) ((HT2.out.keep HG5.out).keep (grew_alloc _ _ _)) ((HZ2.out.keep HG5.out).keep (grew_alloc _ _ _)) (HB5.out.keep (grew_alloc _ _ _)) (by omega) (fun x hx => by have := (HB5.out.t.block x hx).2; omega) (fun x hx => by have := (HB5.out.p.block x hx).2; omega) (grew_trans HG2.out (grew_trans HG5.out (grew_alloc _ _ _))) ⟨by omega, by omega, by omega⟩; generalize w5.alloc (.cells #[.int .i64 0, .slice A' 0 c', .slice A'' 0 c''] 28) = wE at *; generalize hE : w5.heap.size = E at *)
              clear HS HSO HB5 HO4 HG5 HR5 HG4 HR4 HS4 HS5
              have y0 : wE.cell? ⟨w.heap.size + 1 + 1, 0, none⟩ = some (.int .i64 0) := HA.out.cz.at 0 _ rfl
              have y1 : wE.cell? ⟨w.heap.size + 1 + 1, 1, none⟩ = some (.slice none 0 0) := HA.out.cz.at 1 _ rfl
              have y2 : wE.cell? ⟨w.heap.size + 1 + 1, 2, none⟩ = some (.slice none 0 0) := HA.out.cz.at 2 _ rfl
              have f0 : wE.frozen? ⟨w.heap.size + 1 + 1, 0, none⟩ = false := HA.out.cz.fr 0 (by show 0 < 3; omega)
              have f1 : wE.frozen? ⟨w.heap.size + 1 + 1, 1, none⟩ = false := HA.out.cz.fr 1 (by show 1 < 3; omega)
              have f2 : wE.frozen? ⟨w.heap.size + 1 + 1, 2, none⟩ = false := HA.out.cz.fr 2 (by show 2 < 3; omega)
              apply_assumption
              go_wp2
              have HAZ := HA.out.putZ [.int .i64 0, .slice none 0 0, .slice none 0 0] rfl
              have HP := HAZ.cz
              have HGP := HAZ.gr
              change bodyPost _ _ _ _ _ (putC wE (w.heap.size + 1 + 1) 0 [.int .i64 0, .slice none 0 0, .slice none 0 0])
              clear y0 y1 y2 f0 f1 f2 HAZ
              generalize putC wE (w.heap.size + 1 + 1) 0 [.int .i64 0, .slice none 0 0, .slice none 0 0] = w9 at *
              have z0 : w9.cell? ⟨w.heap.size + 1 + 1, 0, none⟩ = _ := HP.at 0 _ rfl
              have z1 : w9.cell? ⟨w.heap.size + 1 + 1, 1, none⟩ = _ := HP.at 1 _ rfl
              have z2 : w9.cell? ⟨w.heap.size + 1 + 1, 2, none⟩ = _ := HP.at 2 _ rfl
              refine bodyPost_ret (v := .tuple #[.agg #[.int .i64 0, .slice none 0 0, .slice none 0 0], .int .i64 0, .int .i64 ae]) (by simp [results, Tryz.results30, go_sem, z0, z1, z2]) rfl ?_
              exact HF.out _ HGP
        · have hnx : b.1 = 1099511627776 := Classical.not_not.1 hnx
          have he : enterE b t = 1 := by
            unfold enterE; rw [if_pos hr, if_pos ht, if_neg h128, if_pos hnx]
          have HF := Lib.hid (enter_no he (by decide) (w := w))
          have lnx : (b.1 == 1099511627776) = true := by rw [hnx]; decide
          clear h he hr ht h128 hnx
          generalize BookN (enterB b t) (enterN b t) (enterE b t) w = PP at *
          obtain ⟨⟨q1, q2, q3, q4, q5, q6⟩, q7⟩ := t
          dsimp only [vBk, vTr] at *
          generalize b.1 = nx at *
          have HX0 : Hid (OwnC (((w.alloc (.cells #[.int .i64 nx, .slice A1 n1 c1, .slice A2 n2 c2] 28)).alloc (.cells #[.int .i64 q1, .int .i64 q2, .int .i64 q3, .int .i64 q4, .int .i64 q5, .int .i64 q6, .bool q7] 50)).alloc (.cells #[.int .i64 0, .slice none 0 0, .slice none 0 0] 28)) w.heap.size [.int .i64 nx, .slice A1 n1 c1, .slice A2 n2 c2]) := ((OwnC.new w [.int .i64 nx, .slice A1 n1 c1, .slice A2 n2 c2] _ _ rfl).keep (grew_alloc _ _ _)).keep (grew_alloc _ _ _)
          have HT0 : Hid (OwnC (((w.alloc (.cells #[.int .i64 nx, .slice A1 n1 c1, .slice A2 n2 c2] 28)).alloc (.cells #[.int .i64 q1, .int .i64 q2, .int .i64 q3, .int .i64 q4, .int .i64 q5, .int .i64 q6, .bool q7] 50)).alloc (.cells #[.int .i64 0, .slice none 0 0, .slice none 0 0] 28)) (w.heap.size + 1) [.int .i64 q1, .int .i64 q2, .int .i64 q3, .int .i64 q4, .int .i64 q5, .int .i64 q6, .bool q7]) := (OwnC.new _ [.int .i64 q1, .int .i64 q2, .int .i64 q3, .int .i64 q4, .int .i64 q5, .int .i64 q6, .bool q7] _ _ (by simp)).keep (grew_alloc _ _ _)
          have HZ0 : Hid (OwnC (((w.alloc (.cells #[.int .i64 nx, .slice A1 n1 c1, .slice A2 n2 c2] 28)).alloc (.cells #[.int .i64 q1, .int .i64 q2, .int .i64 q3, .int .i64 q4, .int .i64 q5, .int .i64 q6, .bool q7] 50)).alloc (.cells #[.int .i64 0, .slice none 0 0, .slice none 0 0] 28)) (w.heap.size + 1 + 1) [.int .i64 0, .slice none 0 0, .slice none 0 0]) := OwnC.new _ [.int .i64 0, .slice none 0 0, .slice none 0 0] _ _ (by simp)
          have HG0 : Hid (Grew w (((w.alloc (.cells #[.int .i64 nx, .slice A1 n1 c1, .slice A2 n2 c2] 28)).alloc (.cells #[.int .i64 q1, .int .i64 q2, .int .i64 q3, .int .i64 q4, .int .i64 q5, .int .i64 q6, .bool q7] 50)).alloc (.cells #[.int .i64 0, .slice none 0 0, .slice none 0 0] 28))) := grew_trans (grew_trans (grew_alloc _ _ _) (grew_alloc _ _ _)) (grew_alloc _ _ _)
          go_enter Tryz.func30, Tryz.ntmps30
          go_upto_region 1 with fail
          generalize ((w.alloc (.cells #[.int .i64 nx, .slice A1 n1 c1, .slice A2 n2 c2] 28)).alloc (.cells #[.int .i64 q1, .int .i64 q2, .int .i64 q3, .int .i64 q4, .int .i64 q5, .int .i64 q6, .bool q7] 50)).alloc (.cells #[.int .i64 0, .slice none 0 0, .slice none 0 0] 28) = w0 at *
          have x0 : w0.cell? ⟨w.heap.size, 0, none⟩ = some (.int .i64 nx) := HX0.out.at 0 _ rfl
          have x1 : w0.cell? ⟨w.heap.size, 1, none⟩ = some (.slice A1 n1 c1) := HX0.out.at 1 _ rfl
          have x2 : w0.cell? ⟨w.heap.size, 2, none⟩ = some (.slice A2 n2 c2) := HX0.out.at 2 _ rfl
          go_wp2_with (first
            | (go_at_call 12; ((with_reducible refine (CC _ HG0.out).mono ?_); rintro e w1 ⟨rfl, hg⟩; have HG1 := Lib.hid (grew_trans HG0.out hg); have HX1 := Lib.hid (HX0.out.keep hg); have HT1 := Lib.hid (HT0.out.keep hg); have HZ1 := Lib.hid (HZ0.out.keep hg); have t0 : w1.cell? ⟨w.heap.size + 1, 0, none⟩ = some (.int .i64 q1) := HT1.out.at 0 _ rfl; have t1 : w1.cell? ⟨w.heap.size + 1, 1, none⟩ = some (.int .i64 q2) := HT1.out.at 1 _ rfl; have t2 : w1.cell? ⟨w.heap.size + 1, 2, none⟩ = some (.int .i64 q3) := HT1.out.at 2 _ rfl; have t3 : w1.cell? ⟨w.heap.size + 1, 3, none⟩ = some (.int .i64 q4) := HT1.out.at 3 _ rfl; have t4 : w1.cell? ⟨w.heap.size + 1, 4, none⟩ = some (.int .i64 q5) := HT1.out.at 4 _ rfl; have t5 : w1.cell? ⟨w.heap.size + 1, 5, none⟩ = some (.int .i64 q6) := HT1.out.at 5 _ rfl; have t6 : w1.cell? ⟨w.heap.size + 1, 6, none⟩ = some (.bool q7) := HT1.out.at 6 _ rfl; clear hg CC x0 x1 x2))
            | (go_at_call 55; ((with_reducible refine (CT _).mono ?_); rintro e w2 ⟨rfl, hg⟩; have HG2 := Lib.hid (grew_trans HG1.out hg); have HX2 := Lib.hid (HX1.out.keep hg); have HT2 := Lib.hid (HT1.out.keep hg); have HZ2 := Lib.hid (HZ1.out.keep hg); have y0 : w2.cell? ⟨w.heap.size + 1 + 1, 0, none⟩ = some (.int .i64 0) := HZ2.out.at 0 _ rfl; have f0 : w2.frozen? ⟨w.heap.size + 1 + 1, 0, none⟩ = false := HZ2.out.fr 0 (by decide); have y1 : w2.cell? ⟨w.heap.size + 1 + 1, 1, none⟩ = some (.slice none 0 0) := HZ2.out.at 1 _ rfl; have f1 : w2.frozen? ⟨w.heap.size + 1 + 1, 1, none⟩ = false := HZ2.out.fr 1 (by decide); have y2 : w2.cell? ⟨w.heap.size + 1 + 1, 2, none⟩ = some (.slice none 0 0) := HZ2.out.at 2 _ rfl; have f2 : w2.frozen? ⟨w.heap.size + 1 + 1, 2, none⟩ = false := HZ2.out.fr 2 (by decide); have x0 : w2.cell? ⟨w.heap.size, 0, none⟩ = some (.int .i64 nx) := HX2.out.at 0 _ rfl; have x1 : w2.cell? ⟨w.heap.size, 1, none⟩ = some (.slice A1 n1 c1) := HX2.out.at 1 _ rfl; have x2 : w2.cell? ⟨w.heap.size, 2, none⟩ = some (.slice A2 n2 c2) := HX2.out.at 2 _ rfl; clear hg CT t0 t1 t2 t3 t4 t5 t6)))
          have HP := HZ2.out.all [.int .i64 0, .slice none 0 0, .slice none 0 0] rfl
          have HGP := grew_put (w := w) (w.heap.size + 1 + 1) (by omega) [.int .i64 0, .slice none 0 0, .slice none 0 0] 0 _ HG2.out
          change bodyPost _ _ _ _ _ (putC w2 (w.heap.size + 1 + 1) 0 [.int .i64 0, .slice none 0 0, .slice none 0 0])
          clear y0 y1 y2 f0 f1 f2
          generalize putC w2 (w.heap.size + 1 + 1) 0 [.int .i64 0, .slice none 0 0, .slice none 0 0] = w9 at *
          have z0 : w9.cell? ⟨w.heap.size + 1 + 1, 0, none⟩ = _ := HP.at 0 _ rfl
          have z1 : w9.cell? ⟨w.heap.size + 1 + 1, 1, none⟩ = _ := HP.at 1 _ rfl
          have z2 : w9.cell? ⟨w.heap.size + 1 + 1, 2, none⟩ = _ := HP.at 2 _ rfl
          refine bodyPost_ret (v := .tuple #[.agg #[.int .i64 0, .slice none 0 0, .slice none 0 0], .int .i64 0, .int .i64 1]) (by simp [results, Tryz.results30, go_sem, z0, z1, z2]) rfl ?_
          exact HF.out _ HGP
      · have h128 : 128 ≤ b.2.1.length := Classical.not_not.1 h128
        have he : enterE b t = 9 := by
          unfold enterE; rw [if_pos hr, if_pos ht, if_pos h128]
        have HF := Lib.hid (enter_no he (by decide) (w := w))
        have hle := ((rightB_iff b).1 hr).2.1.2
        have l128 : ((n1 : Int) == 128) = true := by rw [← h.t.len]; simp; omega
        clear h he hr ht h128 hle
        generalize BookN (enterB b t) (enterN b t) (enterE b t) w = PP at *
        obtain ⟨⟨q1, q2, q3, q4, q5, q6⟩, q7⟩ := t
        dsimp only [vBk, vTr] at *
        generalize b.1 = nx at *
        have HX0 : Hid (OwnC (((w.alloc (.cells #[.int .i64 nx, .slice A1 n1 c1, .slice A2 n2 c2] 28)).alloc (.cells #[.int .i64 q1, .int .i64 q2, .int .i64 q3, .int .i64 q4, .int .i64 q5, .int .i64 q6, .bool q7] 50)).alloc (.cells #[.int .i64 0, .slice none 0 0, .slice none 0 0] 28)) w.heap.size [.int .i64 nx, .slice A1 n1 c1, .slice A2 n2 c2]) := ((OwnC.new w [.int .i64 nx, .slice A1 n1 c1, .slice A2 n2 c2] _ _ rfl).keep (grew_alloc _ _ _)).keep (grew_alloc _ _ _)
        have HT0 : Hid (OwnC (((w.alloc (.cells #[.int .i64 nx, .slice A1 n1 c1, .slice A2 n2 c2] 28)).alloc (.cells #[.int .i64 q1, .int .i64 q2, .int .i64 q3, .int .i64 q4, .int .i64 q5, .int .i64 q6, .bool q7] 50)).alloc (.cells #[.int .i64 0, .slice none 0 0, .slice none 0 0] 28)) (w.heap.size + 1) [.int .i64 q1, .int .i64 q2, .int .i64 q3, .int .i64 q4, .int .i64 q5, .int .i64 q6, .bool q7]) := (OwnC.new _ [.int .i64 q1, .int .i64 q2, .int .i64 q3, .int .i64 q4, .int .i64 q5, .int .i64 q6, .bool q7] _ _ (by simp)).keep (grew_alloc _ _ _)
        have HZ0 : Hid (OwnC (((w.alloc (.cells #[.int .i64 nx, .slice A1 n1 c1, .slice A2 n2 c2] 28)).alloc (.cells #[.int .i64 q1, .int .i64 q2, .int .i64 q3, .int .i64 q4, .int .i64 q5, .int .i64 q6, .bool q7] 50)).alloc (.cells #[.int .i64 0, .slice none 0 0, .slice none 0 0] 28)) (w.heap.size + 1 + 1) [.int .i64 0, .slice none 0 0, .slice none 0 0]) := OwnC.new _ [.int .i64 0, .slice none 0 0, .slice none 0 0] _ _ (by simp)
        have HG0 : Hid (Grew w (((w.alloc (.cells #[.int .i64 nx, .slice A1 n1 c1, .slice A2 n2 c2] 28)).alloc (.cells #[.int .i64 q1, .int .i64 q2, .int .i64 q3, .int .i64 q4, .int .i64 q5, .int .i64 q6, .bool q7] 50)).alloc (.cells #[.int .i64 0, .slice none 0 0, .slice none 0 0] 28))) := grew_trans (grew_trans (grew_alloc _ _ _) (grew_alloc _ _ _)) (grew_alloc _ _ _)
        go_enter Tryz.func30, Tryz.ntmps30
        go_upto_region 1 with fail
        generalize ((w.alloc (.cells #[.int .i64 nx, .slice A1 n1 c1, .slice A2 n2 c2] 28)).alloc (.cells #[.int .i64 q1, .int .i64 q2, .int .i64 q3, .int .i64 q4, .int .i64 q5, .int .i64 q6, .bool q7] 50)).alloc (.cells #[.int .i64 0, .slice none 0 0, .slice none 0 0] 28) = w0 at *
        have x0 : w0.cell? ⟨w.heap.size, 0, none⟩ = some (.int .i64 nx) := HX0.out.at 0 _ rfl
        have x1 : w0.cell? ⟨w.heap.size, 1, none⟩ = some (.slice A1 n1 c1) := HX0.out.at 1 _ rfl
        have x2 : w0.cell? ⟨w.heap.size, 2, none⟩ = some (.slice A2 n2 c2) := HX0.out.at 2 _ rfl
        go_wp2_with (first
          | (go_at_call 12; ((with_reducible refine (CC _ HG0.out).mono ?_); rintro e w1 ⟨rfl, hg⟩; have HG1 := Lib.hid (grew_trans HG0.out hg); have HX1 := Lib.hid (HX0.out.keep hg); have HT1 := Lib.hid (HT0.out.keep hg); have HZ1 := Lib.hid (HZ0.out.keep hg); have t0 : w1.cell? ⟨w.heap.size + 1, 0, none⟩ = some (.int .i64 q1) := HT1.out.at 0 _ rfl; have t1 : w1.cell? ⟨w.heap.size + 1, 1, none⟩ = some (.int .i64 q2) := HT1.out.at 1 _ rfl; have t2 : w1.cell? ⟨w.heap.size + 1, 2, none⟩ = some (.int .i64 q3) := HT1.out.at 2 _ rfl; have t3 : w1.cell? ⟨w.heap.size + 1, 3, none⟩ = some (.int .i64 q4) := HT1.out.at 3 _ rfl; have t4 : w1.cell? ⟨w.heap.size + 1, 4, none⟩ = some (.int .i64 q5) := HT1.out.at 4 _ rfl; have t5 : w1.cell? ⟨w.heap.size + 1, 5, none⟩ = some (.int .i64 q6) := HT1.out.at 5 _ rfl; have t6 : w1.cell? ⟨w.heap.size + 1, 6, none⟩ = some (.bool q7) := HT1.out.at 6 _ rfl; clear hg CC x0 x1 x2))
          | (go_at_call 55; ((with_reducible refine (CT _).mono ?_); rintro e w2 ⟨rfl, hg⟩; have HG2 := Lib.hid (grew_trans HG1.out hg); have HX2 := Lib.hid (HX1.out.keep hg); have HT2 := Lib.hid (HT1.out.keep hg); have HZ2 := Lib.hid (HZ1.out.keep hg); have y0 : w2.cell? ⟨w.heap.size + 1 + 1, 0, none⟩ = some (.int .i64 0) := HZ2.out.at 0 _ rfl; have f0 : w2.frozen? ⟨w.heap.size + 1 + 1, 0, none⟩ = false := HZ2.out.fr 0 (by decide); have y1 : w2.cell? ⟨w.heap.size + 1 + 1, 1, none⟩ = some (.slice none 0 0) := HZ2.out.at 1 _ rfl; have f1 : w2.frozen? ⟨w.heap.size + 1 + 1, 1, none⟩ = false := HZ2.out.fr 1 (by decide); have y2 : w2.cell? ⟨w.heap.size + 1 + 1, 2, none⟩ = some (.slice none 0 0) := HZ2.out.at 2 _ rfl; have f2 : w2.frozen? ⟨w.heap.size + 1 + 1, 2, none⟩ = false := HZ2.out.fr 2 (by decide); have x0 : w2.cell? ⟨w.heap.size, 0, none⟩ = some (.int .i64 nx) := HX2.out.at 0 _ rfl; have x1 : w2.cell? ⟨w.heap.size, 1, none⟩ = some (.slice A1 n1 c1) := HX2.out.at 1 _ rfl; have x2 : w2.cell? ⟨w.heap.size, 2, none⟩ = some (.slice A2 n2 c2) := HX2.out.at 2 _ rfl; clear hg CT t0 t1 t2 t3 t4 t5 t6)))
        have HP := HZ2.out.all [.int .i64 0, .slice none 0 0, .slice none 0 0] rfl
        have HGP := grew_put (w := w) (w.heap.size + 1 + 1) (by omega) [.int .i64 0, .slice none 0 0, .slice none 0 0] 0 _ HG2.out
        change bodyPost _ _ _ _ _ (putC w2 (w.heap.size + 1 + 1) 0 [.int .i64 0, .slice none 0 0, .slice none 0 0])
        clear y0 y1 y2 f0 f1 f2
        generalize putC w2 (w.heap.size + 1 + 1) 0 [.int .i64 0, .slice none 0 0, .slice none 0 0] = w9 at *
        have z0 : w9.cell? ⟨w.heap.size + 1 + 1, 0, none⟩ = _ := HP.at 0 _ rfl
        have z1 : w9.cell? ⟨w.heap.size + 1 + 1, 1, none⟩ = _ := HP.at 1 _ rfl
        have z2 : w9.cell? ⟨w.heap.size + 1 + 1, 2, none⟩ = _ := HP.at 2 _ rfl
        refine bodyPost_ret (v := .tuple #[.agg #[.int .i64 0, .slice none 0 0, .slice none 0 0], .int .i64 0, .int .i64 9]) (by simp [results, Tryz.results30, go_sem, z0, z1, z2]) rfl ?_
        exact HF.out _ HGP
    · rw [Bool.not_eq_true] at ht
      have he : enterE b t = 3 := by
        unfold enterE; rw [if_pos hr, ht]; rfl
      have HF := Lib.hid (enter_no he (by decide) (w := w))
      rw [ht] at CT
      clear h he hr ht
      generalize BookN (enterB b t) (enterN b t) (enterE b t) w = PP at *
      obtain ⟨⟨q1, q2, q3, q4, q5, q6⟩, q7⟩ := t
      dsimp only [vBk, vTr] at *
      generalize b.1 = nx at *
      have HX0 : Hid (OwnC (((w.alloc (.cells #[.int .i64 nx, .slice A1 n1 c1, .slice A2 n2 c2] 28)).alloc (.cells #[.int .i64 q1, .int .i64 q2, .int .i64 q3, .int .i64 q4, .int .i64 q5, .int .i64 q6, .bool q7] 50)).alloc (.cells #[.int .i64 0, .slice none 0 0, .slice none 0 0] 28)) w.heap.size [.int .i64 nx, .slice A1 n1 c1, .slice A2 n2 c2]) := ((OwnC.new w [.int .i64 nx, .slice A1 n1 c1, .slice A2 n2 c2] _ _ rfl).keep (grew_alloc _ _ _)).keep (grew_alloc _ _ _)
      have HT0 : Hid (OwnC (((w.alloc (.cells #[.int .i64 nx, .slice A1 n1 c1, .slice A2 n2 c2] 28)).alloc (.cells #[.int .i64 q1, .int .i64 q2, .int .i64 q3, .int .i64 q4, .int .i64 q5, .int .i64 q6, .bool q7] 50)).alloc (.cells #[.int .i64 0, .slice none 0 0, .slice none 0 0] 28)) (w.heap.size + 1) [.int .i64 q1, .int .i64 q2, .int .i64 q3, .int .i64 q4, .int .i64 q5, .int .i64 q6, .bool q7]) := (OwnC.new _ [.int .i64 q1, .int .i64 q2, .int .i64 q3, .int .i64 q4, .int .i64 q5, .int .i64 q6, .bool q7] _ _ (by simp)).keep (grew_alloc _ _ _)
      have HZ0 : Hid (OwnC (((w.alloc (.cells #[.int .i64 nx, .slice A1 n1 c1, .slice A2 n2 c2] 28)).alloc (.cells #[.int .i64 q1, .int .i64 q2, .int .i64 q3, .int .i64 q4, .int .i64 q5, .int .i64 q6, .bool q7] 50)).alloc (.cells #[.int .i64 0, .slice none 0 0, .slice none 0 0] 28)) (w.heap.size + 1 + 1) [.int .i64 0, .slice none 0 0, .slice none 0 0]) := OwnC.new _ [.int .i64 0, .slice none 0 0, .slice none 0 0] _ _ (by simp)
      have HG0 : Hid (Grew w (((w.alloc (.cells #[.int .i64 nx, .slice A1 n1 c1, .slice A2 n2 c2] 28)).alloc (.cells #[.int .i64 q1, .int .i64 q2, .int .i64 q3, .int .i64 q4, .int .i64 q5, .int .i64 q6, .bool q7] 50)).alloc (.cells #[.int .i64 0, .slice none 0 0, .slice none 0 0] 28))) := grew_trans (grew_trans (grew_alloc _ _ _) (grew_alloc _ _ _)) (grew_alloc _ _ _)
      go_enter Tryz.func30, Tryz.ntmps30
      go_upto_region 1 with fail
      generalize ((w.alloc (.cells #[.int .i64 nx, .slice A1 n1 c1, .slice A2 n2 c2] 28)).alloc (.cells #[.int .i64 q1, .int .i64 q2, .int .i64 q3, .int .i64 q4, .int .i64 q5, .int .i64 q6, .bool q7] 50)).alloc (.cells #[.int .i64 0, .slice none 0 0, .slice none 0 0] 28) = w0 at *
      have x0 : w0.cell? ⟨w.heap.size, 0, none⟩ = some (.int .i64 nx) := HX0.out.at 0 _ rfl
      have x1 : w0.cell? ⟨w.heap.size, 1, none⟩ = some (.slice A1 n1 c1) := HX0.out.at 1 _ rfl
      have x2 : w0.cell? ⟨w.heap.size, 2, none⟩ = some (.slice A2 n2 c2) := HX0.out.at 2 _ rfl
      go_wp2_with (first
        | (go_at_call 12; ((with_reducible refine (CC _ HG0.out).mono ?_); rintro e w1 ⟨rfl, hg⟩; have HG1 := Lib.hid (grew_trans HG0.out hg); have HX1 := Lib.hid (HX0.out.keep hg); have HT1 := Lib.hid (HT0.out.keep hg); have HZ1 := Lib.hid (HZ0.out.keep hg); have t0 : w1.cell? ⟨w.heap.size + 1, 0, none⟩ = some (.int .i64 q1) := HT1.out.at 0 _ rfl; have t1 : w1.cell? ⟨w.heap.size + 1, 1, none⟩ = some (.int .i64 q2) := HT1.out.at 1 _ rfl; have t2 : w1.cell? ⟨w.heap.size + 1, 2, none⟩ = some (.int .i64 q3) := HT1.out.at 2 _ rfl; have t3 : w1.cell? ⟨w.heap.size + 1, 3, none⟩ = some (.int .i64 q4) := HT1.out.at 3 _ rfl; have t4 : w1.cell? ⟨w.heap.size + 1, 4, none⟩ = some (.int .i64 q5) := HT1.out.at 4 _ rfl; have t5 : w1.cell? ⟨w.heap.size + 1, 5, none⟩ = some (.int .i64 q6) := HT1.out.at 5 _ rfl; have t6 : w1.cell? ⟨w.heap.size + 1, 6, none⟩ = some (.bool q7) := HT1.out.at 6 _ rfl; clear hg CC x0 x1 x2))
        | (go_at_call 55; ((with_reducible refine (CT _).mono ?_); rintro e w2 ⟨rfl, hg⟩; have HG2 := Lib.hid (grew_trans HG1.out hg); have HX2 := Lib.hid (HX1.out.keep hg); have HT2 := Lib.hid (HT1.out.keep hg); have HZ2 := Lib.hid (HZ1.out.keep hg); have y0 : w2.cell? ⟨w.heap.size + 1 + 1, 0, none⟩ = some (.int .i64 0) := HZ2.out.at 0 _ rfl; have f0 : w2.frozen? ⟨w.heap.size + 1 + 1, 0, none⟩ = false := HZ2.out.fr 0 (by decide); have y1 : w2.cell? ⟨w.heap.size + 1 + 1, 1, none⟩ = some (.slice none 0 0) := HZ2.out.at 1 _ rfl; have f1 : w2.frozen? ⟨w.heap.size + 1 + 1, 1, none⟩ = false := HZ2.out.fr 1 (by decide); have y2 : w2.cell? ⟨w.heap.size + 1 + 1, 2, none⟩ = some (.slice none 0 0) := HZ2.out.at 2 _ rfl; have f2 : w2.frozen? ⟨w.heap.size + 1 + 1, 2, none⟩ = false := HZ2.out.fr 2 (by decide); have x0 : w2.cell? ⟨w.heap.size, 0, none⟩ = some (.int .i64 nx) := HX2.out.at 0 _ rfl; have x1 : w2.cell? ⟨w.heap.size, 1, none⟩ = some (.slice A1 n1 c1) := HX2.out.at 1 _ rfl; have x2 : w2.cell? ⟨w.heap.size, 2, none⟩ = some (.slice A2 n2 c2) := HX2.out.at 2 _ rfl; clear hg CT t0 t1 t2 t3 t4 t5 t6)))
      have HP := HZ2.out.all [.int .i64 0, .slice none 0 0, .slice none 0 0] rfl
      have HGP := grew_put (w := w) (w.heap.size + 1 + 1) (by omega) [.int .i64 0, .slice none 0 0, .slice none 0 0] 0 _ HG2.out
      change bodyPost _ _ _ _ _ (putC w2 (w.heap.size + 1 + 1) 0 [.int .i64 0, .slice none 0 0, .slice none 0 0])
      clear y0 y1 y2 f0 f1 f2
      generalize putC w2 (w.heap.size + 1 + 1) 0 [.int .i64 0, .slice none 0 0, .slice none 0 0] = w9 at *
      have z0 : w9.cell? ⟨w.heap.size + 1 + 1, 0, none⟩ = _ := HP.at 0 _ rfl
      have z1 : w9.cell? ⟨w.heap.size + 1 + 1, 1, none⟩ = _ := HP.at 1 _ rfl
      have z2 : w9.cell? ⟨w.heap.size + 1 + 1, 2, none⟩ = _ := HP.at 2 _ rfl
      refine bodyPost_ret (v := .tuple #[.agg #[.int .i64 0, .slice none 0 0, .slice none 0 0], .int .i64 0, .int .i64 3]) (by simp [results, Tryz.results30, go_sem, z0, z1, z2]) rfl ?_
      exact HF.out _ HGP
  · rw [Bool.not_eq_true] at hr
    have he : enterE b t = 14 := by
      unfold enterE; rw [hr]; rfl
    have HF := Lib.hid (enter_no he (by decide) (w := w))
    rw [chkB_no hr] at CC
    clear h he hr
    generalize BookN (enterB b t) (enterN b t) (enterE b t) w = PP at *
    obtain ⟨⟨q1, q2, q3, q4, q5, q6⟩, q7⟩ := t
    dsimp only [vBk, vTr] at *
    generalize b.1 = nx at *
    have HX0 : Hid (OwnC (((w.alloc (.cells #[.int .i64 nx, .slice A1 n1 c1, .slice A2 n2 c2] 28)).alloc (.cells #[.int .i64 q1, .int .i64 q2, .int .i64 q3, .int .i64 q4, .int .i64 q5, .int .i64 q6, .bool q7] 50)).alloc (.cells #[.int .i64 0, .slice none 0 0, .slice none 0 0] 28)) w.heap.size [.int .i64 nx, .slice A1 n1 c1, .slice A2 n2 c2]) := ((OwnC.new w [.int .i64 nx, .slice A1 n1 c1, .slice A2 n2 c2] _ _ rfl).keep (grew_alloc _ _ _)).keep (grew_alloc _ _ _)
    have HT0 : Hid (OwnC (((w.alloc (.cells #[.int .i64 nx, .slice A1 n1 c1, .slice A2 n2 c2] 28)).alloc (.cells #[.int .i64 q1, .int .i64 q2, .int .i64 q3, .int .i64 q4, .int .i64 q5, .int .i64 q6, .bool q7] 50)).alloc (.cells #[.int .i64 0, .slice none 0 0, .slice none 0 0] 28)) (w.heap.size + 1) [.int .i64 q1, .int .i64 q2, .int .i64 q3, .int .i64 q4, .int .i64 q5, .int .i64 q6, .bool q7]) := (OwnC.new _ [.int .i64 q1, .int .i64 q2, .int .i64 q3, .int .i64 q4, .int .i64 q5, .int .i64 q6, .bool q7] _ _ (by simp)).keep (grew_alloc _ _ _)
    have HZ0 : Hid (OwnC (((w.alloc (.cells #[.int .i64 nx, .slice A1 n1 c1, .slice A2 n2 c2] 28)).alloc (.cells #[.int .i64 q1, .int .i64 q2, .int .i64 q3, .int .i64 q4, .int .i64 q5, .int .i64 q6, .bool q7] 50)).alloc (.cells #[.int .i64 0, .slice none 0 0, .slice none 0 0] 28)) (w.heap.size + 1 + 1) [.int .i64 0, .slice none 0 0, .slice none 0 0]) := OwnC.new _ [.int .i64 0, .slice none 0 0, .slice none 0 0] _ _ (by simp)
    have HG0 : Hid (Grew w (((w.alloc (.cells #[.int .i64 nx, .slice A1 n1 c1, .slice A2 n2 c2] 28)).alloc (.cells #[.int .i64 q1, .int .i64 q2, .int .i64 q3, .int .i64 q4, .int .i64 q5, .int .i64 q6, .bool q7] 50)).alloc (.cells #[.int .i64 0, .slice none 0 0, .slice none 0 0] 28))) := grew_trans (grew_trans (grew_alloc _ _ _) (grew_alloc _ _ _)) (grew_alloc _ _ _)
    go_enter Tryz.func30, Tryz.ntmps30
    go_upto_region 1 with fail
    generalize ((w.alloc (.cells #[.int .i64 nx, .slice A1 n1 c1, .slice A2 n2 c2] 28)).alloc (.cells #[.int .i64 q1, .int .i64 q2, .int .i64 q3, .int .i64 q4, .int .i64 q5, .int .i64 q6, .bool q7] 50)).alloc (.cells #[.int .i64 0, .slice none 0 0, .slice none 0 0] 28) = w0 at *
    have x0 : w0.cell? ⟨w.heap.size, 0, none⟩ = some (.int .i64 nx) := HX0.out.at 0 _ rfl
    have x1 : w0.cell? ⟨w.heap.size, 1, none⟩ = some (.slice A1 n1 c1) := HX0.out.at 1 _ rfl
    have x2 : w0.cell? ⟨w.heap.size, 2, none⟩ = some (.slice A2 n2 c2) := HX0.out.at 2 _ rfl
    go_wp2_with (go_at_call 12; ((with_reducible refine (CC _ HG0.out).mono ?_); rintro e w1 ⟨rfl, hg⟩; have HG1 := Lib.hid (grew_trans HG0.out hg); have HX1 := Lib.hid (HX0.out.keep hg); have HT1 := Lib.hid (HT0.out.keep hg); have HZ1 := Lib.hid (HZ0.out.keep hg); have y0 : w1.cell? ⟨w.heap.size + 1 + 1, 0, none⟩ = some (.int .i64 0) := HZ1.out.at 0 _ rfl; have f0 : w1.frozen? ⟨w.heap.size + 1 + 1, 0, none⟩ = false := HZ1.out.fr 0 (by decide); have y1 : w1.cell? ⟨w.heap.size + 1 + 1, 1, none⟩ = some (.slice none 0 0) := HZ1.out.at 1 _ rfl; have f1 : w1.frozen? ⟨w.heap.size + 1 + 1, 1, none⟩ = false := HZ1.out.fr 1 (by decide); have y2 : w1.cell? ⟨w.heap.size + 1 + 1, 2, none⟩ = some (.slice none 0 0) := HZ1.out.at 2 _ rfl; have f2 : w1.frozen? ⟨w.heap.size + 1 + 1, 2, none⟩ = false := HZ1.out.fr 2 (by decide); clear hg CC x0 x1 x2))
    have HP := HZ1.out.all [.int .i64 0, .slice none 0 0, .slice none 0 0] rfl
    have HGP := grew_put (w := w) (w.heap.size + 1 + 1) (by omega) [.int .i64 0, .slice none 0 0, .slice none 0 0] 0 _ HG1.out
    change bodyPost _ _ _ _ _ (putC w1 (w.heap.size + 1 + 1) 0 [.int .i64 0, .slice none 0 0, .slice none 0 0])
    clear y0 y1 y2 f0 f1 f2
    generalize putC w1 (w.heap.size + 1 + 1) 0 [.int .i64 0, .slice none 0 0, .slice none 0 0] = w9 at *
    have z0 : w9.cell? ⟨w.heap.size + 1 + 1, 0, none⟩ = _ := HP.at 0 _ rfl
    have z1 : w9.cell? ⟨w.heap.size + 1 + 1, 1, none⟩ = _ := HP.at 1 _ rfl
    have z2 : w9.cell? ⟨w.heap.size + 1 + 1, 2, none⟩ = _ := HP.at 2 _ rfl
    refine bodyPost_ret (v := .tuple #[.agg #[.int .i64 0, .slice none 0 0, .slice none 0 0], .int .i64 0, .int .i64 14]) (by simp [results, Tryz.results30, go_sem, z0, z1, z2]) rfl ?_
    exact HF.out _ HGP
end Go.Proofs.YtahioajpmlochaaGreat.NumK
