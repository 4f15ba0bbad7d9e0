/- book.Cancel. -/
import Derived.Test.YtahioajpmlochaaGreatRH20
import Derived.Test.YtahioajpmlochaaGreatRH21
import Derived.Test.YtahioajpmlochaaGreatRH22
import Derived.Test.YtahioajpmlochaaGreatRH8
import Derived.Deep.RegionHeld3
namespace Go.Proofs.YtahioajpmlochaaGreat.NumK
open Go.RowKit
set_option linter.unusedVariables false

/-- A trade is set off. -/
theorem AtE.offAt {w wE : World} {e ob zb : Nat} {ev ol zl : List Value} {A1 A2 : Option Addr} {n1 n2 c1 c2 : Nat} {lt : List Tr} {pl : List Po} (h : AtE w wE e ob zb ev ol zl A1 A2 n1 n2 c1 c2 lt pl) (hn : n1 = lt.length) {j : Nat} (hj : j < lt.length) :
    ∃ g, A1 = some ⟨g, 0, none⟩ ∧ g < wE.heap.size ∧ wE.frozen? ⟨g, j * 7 + 6, none⟩ = false ∧ wE.cell? ⟨g, j * 7 + 6, none⟩ = some (.bool (lt.getD j tr0).2)
      ∧ AtE w (wE.setCell ⟨g, j * 7 + 6, none⟩ (.bool true)) e ob zb ev ol zl A1 A2 n1 n2 c1 c2 (lt.set j ((lt.getD j tr0).1, true)) pl := by
  subst hn
  obtain ⟨g, rfl, hb, hlt, hf, hc⟩ := h.rows.a.at0 (by omega)
  have hle := h.le
  have hge : g ≠ e := h.n1 g rfl
  have hc6 := hc j hj 6 (by decide)
  have hx : enTr.cs ((lt.getD j tr0).1, true) = (enTr.cs lt[j]).set 6 (.bool true) := by rw [getD_at lt tr0 j hj]; rfl
  refine ⟨g, rfl, hlt, hf _, ?_, ⟨h.ce.other ⟨g, _, none⟩ _ hge, h.co.other ⟨g, _, none⟩ _ (by show g ≠ ob; omega), h.cz.other ⟨g, _, none⟩ _ (by show g ≠ zb; omega), ⟨h.rows.a.put1 rfl j 6 (.bool true) _ hj (by decide) hx, h.rows.b.setO g _ _ fun k hk => ?_, h.rows.ne⟩, h.n1, h.n2, grew_set h.gr _ (by show _ ≤ g; omega), h.le⟩⟩
  · rw [getD_at lt tr0 j hj]; exact hc6
  · intro e2
    subst e2
    exact h.rows.ne k rfl hk
theorem cancelE_no {b : Bk} {no : Int} (h : cancelE b no ≠ 0) : cancelB b no = bk0 := by unfold cancelB; rw [if_neg h]
theorem cancel_no {b : Bk} {no n : Int} (h : cancelE b no = n) (hn : n ≠ 0) {w : World} : ∀ w', Grew w w' → BookE (cancelB b no) (cancelE b no) w (.returned (.tuple #[.agg #[.int .i64 0, .slice none 0 0, .slice none 0 0], .int .i64 n])) w' := fun w' g => by
  subst h
  exact bookE_no (cancelE_no hn) g

set_option maxRecDepth 100000 in
set_option maxHeartbeats 8000000 in
theorem cancel_any (b : Bk) (no : Int) (A1 A2 : Option Addr) (n1 n2 c1 c2 : Nat) (w : World) (h : InB w b A1 A2 n1 n2 c1 c2) (hn : n1 ≤ 10000 ∧ n2 ≤ 10000) :
    Calls Tryz.prog 27 #[vBk b.1 A1 A2 n1 n2 c1 c2, .int .i64 no] w (BookE (cancelB b no) (cancelE b no) w) := by
  have CC := fun w' (g : Grew w w') => bcheck_any b A1 A2 n1 n2 c1 c2 w' (h.keep g) ⟨by omega, by omega⟩
  by_cases hr : rightB b = true
  · rw [chkB_yes hr] at CC
    have CS := fun w' (g : Grew w w') => standing_any b A1 A2 n1 n2 c1 c2 no w' (h.keep g) (by omega)
    unfold ixV at CS
    cases hix : ixT b.2.1 no with
    | some i =>
      rw [hix] at CS
      dsimp only at CS
      obtain ⟨i1, i2, i3, i4⟩ := ixT_some hix
      have he : cancelE b no = addE b (legsT (theT b.2.1 no) true) := by unfold cancelE; rw [if_pos hr, if_pos i4]
      have CL := fun w' => undo12_any (b.2.1.getD i tr0) w'
      unfold LegsPost at CL
      rw [i3] at he
      have CA := fun (A : Option Addr) (c : Nat) w' (g : Grew w w') (ho : OwnE enPo w' 0 31 (.slice A (legsT (b.2.1.getD i tr0) true).length c) (legsT (b.2.1.getD i tr0) true)) => badd_any b A1 A2 A n1 n2 (legsT (b.2.1.getD i tr0) true).length c1 c2 c (legsT (b.2.1.getD i tr0) true) w' (h.keep g) (own_form ho).1 (own_form ho).2.1 ⟨hn.1, hn.2, by have := legs_len (b.2.1.getD i tr0) true; omega⟩
      unfold BookE at CA
      have HLT := Lib.hid h.t.len
      have hin : i < n1 := by rw [← h.t.len]; exact i1
      obtain ⟨bb, o, rfl, hbb, hcc⟩ := h.t.tr hin
      have HTC : Hid (∀ w', Grew w w' → CTr w' bb (o + i * 7) (b.2.1.getD i tr0)) := fun w' g => (hcc i hin).keep g hbb
      clear hcc hbb
      have k0 : (0 : Int) ≤ (i : Int) := by omega
      have k1 : (i : Int) < (n1 : Int) := by omega
      have k2 : ¬ (i : Int) < 0 := by omega
      by_cases ha : addE b (legsT (b.2.1.getD i tr0) true) = 0
      · have hE := he.trans ha
        have HYES : Hid (∀ w' A A' c c', OwnB w' w.heap.size (b.1, b.2.1.set i ((b.2.1.getD i tr0).1, true), plA (addF b.2.2 (legsT (b.2.1.getD i tr0) true))) A A' c c' → Grew w w' → BookE (cancelB b no) (cancelE b no) w (.returned (.tuple #[vBk b.1 A A' b.2.1.length (plA (addF b.2.2 (legsT (b.2.1.getD i tr0) true))).length c c', .int .i64 0])) w') := fun w' A A' c c' ho g => by
          rw [off_set ((rightB_iff b).1 hr).2.1.1.2 hix] at ho
          rw [cancelB_ok hE, hE, i3]
          exact ⟨A, A', c, c', by rw [off_len], ho, g⟩
        rw [addB_ok ha, ha] at CA
        have hl : b.2.1.length ≤ 10000 := by rw [h.t.len]; exact hn.1
        clear h he hE ha hr i2 i3 i4 hix
        generalize BookE (cancelB b no) (cancelE b no) w = PP at *
        generalize plA (addF b.2.2 (legsT (b.2.1.getD i tr0) true)) = pl at *
        generalize legsT (b.2.1.getD i tr0) true = lg at *
        generalize b.2.1 = lt at *
        generalize htt : lt.getD i tr0 = tt at *
        have HTT := Lib.hid htt
        clear htt
        obtain ⟨⟨q1, q2, q3, q4, q5, q6⟩, q7⟩ := tt
        dsimp only [vTr] at CL
        dsimp only [vBk] at *
        generalize b.1 = nx at *
        have HX0 : Hid (OwnC ((w.alloc (.cells #[.int .i64 nx, .slice (some ⟨bb, o, none⟩) n1 c1, .slice A2 n2 c2] 28)).alloc (.cells #[.int .i64 0, .slice none 0 0, .slice none 0 0] 28)) w.heap.size [.int .i64 nx, .slice (some ⟨bb, o, none⟩) n1 c1, .slice A2 n2 c2]) := (OwnC.new w [.int .i64 nx, .slice (some ⟨bb, o, none⟩) n1 c1, .slice A2 n2 c2] _ _ rfl).keep (grew_alloc _ _ _)
        have HZ0 : Hid (OwnC ((w.alloc (.cells #[.int .i64 nx, .slice (some ⟨bb, o, none⟩) n1 c1, .slice A2 n2 c2] 28)).alloc (.cells #[.int .i64 0, .slice none 0 0, .slice none 0 0] 28)) (w.heap.size + 1) [.int .i64 0, .slice none 0 0, .slice none 0 0]) := OwnC.new _ [.int .i64 0, .slice none 0 0, .slice none 0 0] _ _ (by simp)
        have HG0 : Hid (Grew w ((w.alloc (.cells #[.int .i64 nx, .slice (some ⟨bb, o, none⟩) n1 c1, .slice A2 n2 c2] 28)).alloc (.cells #[.int .i64 0, .slice none 0 0, .slice none 0 0] 28))) := grew_trans (grew_alloc _ _ _) (grew_alloc _ _ _)
        go_enter Tryz.func27, Tryz.ntmps27
        go_upto_region 1 with fail
        generalize (w.alloc (.cells #[.int .i64 nx, .slice (some ⟨bb, o, none⟩) n1 c1, .slice A2 n2 c2] 28)).alloc (.cells #[.int .i64 0, .slice none 0 0, .slice none 0 0] 28) = w0 at *
        have x0 : w0.cell? ⟨w.heap.size, 0, none⟩ = some (.int .i64 nx) := HX0.out.at 0 _ rfl
        have x1 : w0.cell? ⟨w.heap.size, 1, none⟩ = some (.slice (some ⟨bb, o, none⟩) n1 c1) := HX0.out.at 1 _ rfl
        have x2 : w0.cell? ⟨w.heap.size, 2, none⟩ = some (.slice A2 n2 c2) := HX0.out.at 2 _ rfl
        go_upto_region 7 with (first
          | (go_at_call 12; ((with_reducible refine (CC _ HG0.out).mono ?_); rintro e w1 ⟨rfl, hg⟩; have HG1 := Lib.hid (grew_trans HG0.out hg); have HX1 := Lib.hid (HX0.out.keep hg); have HZ1 := Lib.hid (HZ0.out.keep hg); clear x0 x1 x2; have x0 : w1.cell? ⟨w.heap.size, 0, none⟩ = some (.int .i64 nx) := HX1.out.at 0 _ rfl; have x1 : w1.cell? ⟨w.heap.size, 1, none⟩ = some (.slice (some ⟨bb, o, none⟩) n1 c1) := HX1.out.at 1 _ rfl; have x2 : w1.cell? ⟨w.heap.size, 2, none⟩ = some (.slice A2 n2 c2) := HX1.out.at 2 _ rfl; clear hg CC))
          | (go_at_call 51; ((with_reducible refine (CS _ HG1.out).mono ?_); rintro e w2 ⟨rfl, hg⟩; have HG2 := Lib.hid (grew_trans HG1.out hg); have HX2 := Lib.hid (HX1.out.keep hg); have HZ2 := Lib.hid (HZ1.out.keep hg); clear x0 x1 x2; clear hg CS)))
        have HSO : Hid (∀ w', OwnC w' (w.heap.size) [.int .i64 nx, .slice (some ⟨bb, o, none⟩) n1 c1, .slice A2 n2 c2] → CTr w' bb (o + i * 7) ((q1, q2, q3, q4, q5, q6), q7) → (w'.cell? ⟨w.heap.size, 0, none⟩ = some (.int .i64 nx) ∧ w'.cell? ⟨w.heap.size, 1, none⟩ = some (.slice (some ⟨bb, o, none⟩) n1 c1) ∧ w'.cell? ⟨w.heap.size, 2, none⟩ = some (.slice A2 n2 c2) ∧ w'.cell? ⟨bb, o + i * 7, none⟩ = some (.int .i64 q1) ∧ w'.cell? ⟨bb, o + i * 7 + 1, none⟩ = some (.int .i64 q2) ∧ w'.cell? ⟨bb, o + i * 7 + 2, none⟩ = some (.int .i64 q3) ∧ w'.cell? ⟨bb, o + i * 7 + 3, none⟩ = some (.int .i64 q4) ∧ w'.cell? ⟨bb, o + i * 7 + 4, none⟩ = some (.int .i64 q5) ∧ w'.cell? ⟨bb, o + i * 7 + 5, none⟩ = some (.int .i64 q6) ∧ w'.cell? ⟨bb, o + i * 7 + 6, none⟩ = some (.bool q7))) := fun w' hx ht => ⟨hx.at 0 _ rfl, hx.at 1 _ rfl, hx.at 2 _ rfl, ht.1, ht.2.1, ht.2.2.1, ht.2.2.2.1, ht.2.2.2.2.1, ht.2.2.2.2.2.1, ht.2.2.2.2.2.2⟩
        have HS : Hid (∀ w', Grew w2 w' → (w'.cell? ⟨w.heap.size, 0, none⟩ = some (.int .i64 nx) ∧ w'.cell? ⟨w.heap.size, 1, none⟩ = some (.slice (some ⟨bb, o, none⟩) n1 c1) ∧ w'.cell? ⟨w.heap.size, 2, none⟩ = some (.slice A2 n2 c2) ∧ w'.cell? ⟨bb, o + i * 7, none⟩ = some (.int .i64 q1) ∧ w'.cell? ⟨bb, o + i * 7 + 1, none⟩ = some (.int .i64 q2) ∧ w'.cell? ⟨bb, o + i * 7 + 2, none⟩ = some (.int .i64 q3) ∧ w'.cell? ⟨bb, o + i * 7 + 3, none⟩ = some (.int .i64 q4) ∧ w'.cell? ⟨bb, o + i * 7 + 4, none⟩ = some (.int .i64 q5) ∧ w'.cell? ⟨bb, o + i * 7 + 5, none⟩ = some (.int .i64 q6) ∧ w'.cell? ⟨bb, o + i * 7 + 6, none⟩ = some (.bool q7))) := fun w' g => HSO.out _ (HX2.out.keep g) (HTC.out _ (grew_trans HG2.out g))
        have hs2 : w.heap.size + 2 ≤ w2.heap.size := by have := HZ2.out.lt; omega
        have HS2a := HS.out _ (grew_drew (grew_alloc w2 #[.int .i64 0, .slice none 0 0, .slice none 0 0] 28))
        refine wp_region_noPanic ?_
        refine wp_region_held_drew (S := fun w' => w'.cell? ⟨w.heap.size, 0, none⟩ = some (.int .i64 nx) ∧ w'.cell? ⟨w.heap.size, 1, none⟩ = some (.slice (some ⟨bb, o, none⟩) n1 c1) ∧ w'.cell? ⟨w.heap.size, 2, none⟩ = some (.slice A2 n2 c2) ∧ w'.cell? ⟨bb, o + i * 7, none⟩ = some (.int .i64 q1) ∧ w'.cell? ⟨bb, o + i * 7 + 1, none⟩ = some (.int .i64 q2) ∧ w'.cell? ⟨bb, o + i * 7 + 2, none⟩ = some (.int .i64 q3) ∧ w'.cell? ⟨bb, o + i * 7 + 3, none⟩ = some (.int .i64 q4) ∧ w'.cell? ⟨bb, o + i * 7 + 4, none⟩ = some (.int .i64 q5) ∧ w'.cell? ⟨bb, o + i * 7 + 5, none⟩ = some (.int .i64 q6) ∧ w'.cell? ⟨bb, o + i * 7 + 6, none⟩ = some (.bool q7)) (by kernel_rfl) (HS.out _ (grew_drew (grew_refl _))) (fun hHeld => ?_)
        (refine wpAnyH_take (i := 0) (oi := { dst := some 23, op := Op.load 28 (Operand.tmp 2), type := 28, pos := "book.go:87", after := #[], guard := none }) (v := ?_) rfl (by kernel_rfl) (by kernel_rfl) (by kernel_rfl) (fun _ _ _ h => h) (Or.inl ⟨by rfl, ?_⟩) (by assumption) ?_; rotate_left; · (intro w hSw; (try dsimp only at hSw); go_simp; (first | done | with_reducible rfl)))
        try simp only [Act.put, List.setIfInBounds_toArray, List.set_cons_zero, List.set_cons_succ]
        (refine wpAnyH_take (i := 1) (oi := { dst := some 24, op := Op.fieldAddr 28 (Operand.tmp 2) 1, type := 0, pos := "book.go:87", after := #[], guard := none }) (v := ?_) rfl (by kernel_rfl) (by kernel_rfl) (by kernel_rfl) (fun _ _ _ h => h) (Or.inl ⟨by rfl, ?_⟩) (by assumption) ?_; rotate_left; · (intro w hSw; (try dsimp only at hSw); go_simp; (first | done | with_reducible rfl)))
        try simp only [Act.put, List.setIfInBounds_toArray, List.set_cons_zero, List.set_cons_succ]
        (refine wpAnyH_take (i := 2) (oi := { dst := some 25, op := Op.load 25 (Operand.tmp 24), type := 25, pos := "book.go:87", after := #[{ on := 1, ground := Ground.data }], guard := none }) (v := ?_) rfl (by kernel_rfl) (by kernel_rfl) (by kernel_rfl) (fun _ _ _ h => h) (Or.inl ⟨by rfl, ?_⟩) (by assumption) ?_; rotate_left; · (intro w hSw; (try dsimp only at hSw); go_simp; (first | done | with_reducible rfl)))
        try simp only [Act.put, List.setIfInBounds_toArray, List.set_cons_zero, List.set_cons_succ]
        (refine wpAnyH_take (i := 3) (oi := { dst := some 26, op := Op.move (Operand.tmp 7), type := 3, pos := "book.go:87", after := #[], guard := none }) (v := ?_) rfl (by kernel_rfl) (by kernel_rfl) (by kernel_rfl) (fun _ _ _ h => h) (Or.inl ⟨by rfl, ?_⟩) (by assumption) ?_; rotate_left; · (intro w hSw; (try dsimp only at hSw); go_simp; (first | done | with_reducible rfl)))
        try simp only [Act.put, List.setIfInBounds_toArray, List.set_cons_zero, List.set_cons_succ]
        (refine wpAnyH_take (i := 4) (oi := { dst := some 27, op := Op.indexAddr 25 (Operand.tmp 25) (Operand.tmp 26), type := 0, pos := "book.go:87", after := #[{ on := 2, ground := Ground.data }, { on := 3, ground := Ground.data }], guard := none }) (v := ?_) rfl (by kernel_rfl) (by kernel_rfl) (by kernel_rfl) (fun _ _ _ h => h) (Or.inl ⟨by rfl, ?_⟩) (by assumption) ?_; rotate_left; · (intro w hSw; (try dsimp only at hSw); go_simp; (first | done | with_reducible rfl)))
        try simp only [Act.put, List.setIfInBounds_toArray, List.set_cons_zero, List.set_cons_succ]
        (refine wpAnyH_take (i := 5) (oi := { dst := some 28, op := Op.load 50 (Operand.tmp 27), type := 50, pos := "book.go:87", after := #[{ on := 4, ground := Ground.data }], guard := none }) (v := ?_) rfl (by kernel_rfl) (by kernel_rfl) (by kernel_rfl) (fun _ _ _ h => h) (Or.inl ⟨by rfl, ?_⟩) (by assumption) ?_; rotate_left; · (intro w hSw; (try dsimp only at hSw); go_simp; (first | done | with_reducible rfl)))
        try simp only [Act.put, List.setIfInBounds_toArray, List.set_cons_zero, List.set_cons_succ]
        refine wpAnyH_ready (rs := [6, 11]) (by kernel_rfl) (by simp) ?_
        refine (AllReadyH.cons (o := { dst := some 29, op := Op.call { callee := Callee.value (Operand.func 53), args := #[Operand.tmp 28], argTypes := #[50] }, type := 26, pos := "book.go:87", after := #[{ on := 5, ground := Ground.data }], guard := none }) rfl (fun K hK => ?_) (AllReadyH.cons (o := { dst := some 8, op := Op.alloc 28, type := 0, pos := "book.go:87", after := #[], guard := none }) rfl (fun K hK => ?_) AllReadyH.nil))
        · go_simp
          (go_at_call 53; (with_reducible refine (CL _).mono ?_); rintro e w4 ⟨A3, c3, rfl, ho, hg⟩; have HR4 := Lib.hid hg; have HG4 : Hid (Grew w2 w4) := grew_trans (by repeat (first | exact grew_refl _ | refine grew_drew ?_ | refine grew_trans ?_ (grew_alloc _ _ _))) hg; have HS4 := HS.out _ HG4.out; have HS4a := HS.out _ (grew_trans HG4.out (grew_alloc w4 #[.int .i64 0, .slice none 0 0, .slice none 0 0] 28)); have hs4 : w2.heap.size ≤ w4.heap.size := HG4.out.size; have HO4 := Lib.hid (ho.mono (Nat.zero_le _)); clear ho hg)
          refine hK.out _ _ ?_ (fun hHeld => ?_)
          · first
            | exact HS4
          clear hK K
          try simp only [Act.put, List.setIfInBounds_toArray, List.set_cons_zero, List.set_cons_succ]
          refine wpAnyH_ready (rs := [7, 11]) (by kernel_rfl) (by simp) ?_
          refine (AllReadyH.cons (o := { dst := some 30, op := Op.call { callee := Callee.value (Operand.func 52), args := #[Operand.tmp 23, Operand.tmp 29], argTypes := #[28, 26] }, type := 43, pos := "book.go:87", after := #[{ on := 0, ground := Ground.data }, { on := 6, ground := Ground.data }, { on := 6, ground := Ground.chain }], guard := none }) rfl (fun K hK => ?_) (AllReadyH.cons (o := { dst := some 8, op := Op.alloc 28, type := 0, pos := "book.go:87", after := #[], guard := none }) rfl (fun K hK => ?_) AllReadyH.nil))
          · go_simp
            (go_at_call 52; (with_reducible refine (CA _ _ _ (grew_trans HG2.out (grew_trans HG4.out (by repeat (first | exact grew_refl _ | refine grew_drew ?_ | refine grew_trans ?_ (grew_alloc _ _ _))))) (HO4.out.keep (by repeat (first | exact grew_refl _ | refine grew_drew ?_ | refine grew_trans ?_ (grew_alloc _ _ _))))).mono ?_); rintro e w5 ⟨A', A'', c', c'', rfl, hb, hg⟩; have HB5 := Lib.hid hb; have HR5 := Lib.hid hg; have HG5 : Hid (Grew w2 w5) := grew_trans HG4.out (grew_trans (by repeat (first | exact grew_refl _ | refine grew_drew ?_ | refine grew_trans ?_ (grew_alloc _ _ _))) hg); have HS5 := HS.out _ HG5.out; have HS5a := HS.out _ (grew_trans HG5.out (grew_alloc w5 #[.int .i64 0, .slice none 0 0, .slice none 0 0] 28)); have hs5 : w4.heap.size ≤ w5.heap.size := (grew_trans (c := w5) (by repeat (first | exact grew_refl _ | refine grew_drew ?_ | refine grew_trans ?_ (grew_alloc _ _ _))) hg : Grew w4 w5).size; clear hb hg)
            refine hK.out _ _ ?_ (fun hHeld => ?_)
            · first
              | exact HS5
            clear hK K
            try simp only [Act.put, List.setIfInBounds_toArray, List.set_cons_zero, List.set_cons_succ]
            (refine wpAnyH_take (i := 8) (oi := { dst := some 22, op := Op.move (Operand.tmp 30), type := 43, pos := "book.go:87", after := #[{ on := 7, ground := Ground.data }], guard := none }) (v := ?_) rfl (by kernel_rfl) (by kernel_rfl) (by kernel_rfl) (fun _ _ _ h => h) (Or.inl ⟨by rfl, ?_⟩) (by assumption) ?_; rotate_left; · (intro w hSw; (try dsimp only at hSw); go_simp; (first | done | with_reducible rfl)))
            try simp only [Act.put, List.setIfInBounds_toArray, List.set_cons_zero, List.set_cons_succ]
            (refine wpAnyH_take (i := 9) (oi := { dst := some 31, op := Op.extract (Operand.tmp 22) 0, type := 28, pos := "book.go:87", after := #[{ on := 8, ground := Ground.data }], guard := none }) (v := ?_) rfl (by kernel_rfl) (by kernel_rfl) (by kernel_rfl) (fun _ _ _ h => h) (Or.inl ⟨by rfl, ?_⟩) (by assumption) ?_; rotate_left; · (intro w hSw; (try dsimp only at hSw); go_simp; (first | done | with_reducible rfl)))
            try simp only [Act.put, List.setIfInBounds_toArray, List.set_cons_zero, List.set_cons_succ]
            (refine wpAnyH_take (i := 10) (oi := { dst := some 32, op := Op.extract (Operand.tmp 22) 1, type := 34, pos := "book.go:87", after := #[{ on := 8, ground := Ground.data }, { on := 12, ground := Ground.gcOnly Departure.lateStores }], guard := none }) (v := ?_) rfl (by kernel_rfl) (by kernel_rfl) (by kernel_rfl) (fun _ _ _ h => h) (Or.inl ⟨by rfl, ?_⟩) (by assumption) ?_; rotate_left; · (intro w hSw; (try dsimp only at hSw); go_simp; (first | done | with_reducible rfl)))
            try simp only [Act.put, List.setIfInBounds_toArray, List.set_cons_zero, List.set_cons_succ]
            refine wpAnyH_ready (rs := [11]) (by kernel_rfl) (by simp) ?_
            refine (AllReadyH.cons (o := { dst := some 8, op := Op.alloc 28, type := 0, pos := "book.go:87", after := #[], guard := none }) rfl (fun K hK => ?_) AllReadyH.nil)
            go_simp
            refine hK.out _ _ ?_ (fun hHeld => ?_)
            · first
              | exact HS2a
              | exact HS4a
              | exact HS5a
            clear hK K
            try simp only [Act.put, List.setIfInBounds_toArray, List.set_cons_zero, List.set_cons_succ]
            refine wpAnyH_ready (rs := [12]) (by kernel_rfl) (by simp) ?_
            refine (AllReadyH.cons (o := { dst := none, op := Op.store 28 (Operand.tmp 8) (Operand.tmp 31), type := 0, pos := "book.go:87", after := #[{ on := 11, ground := Ground.data }, { on := 9, ground := Ground.data }, { on := 7, ground := Ground.chain }, { on := 0, ground := Ground.phase }, { on := 1, ground := Ground.phase }, { on := 2, ground := Ground.phase }, { on := 3, ground := Ground.phase }, { on := 4, ground := Ground.phase }, { on := 5, ground := Ground.phase }, { on := 6, ground := Ground.phase }, { on := 7, ground := Ground.phase }, { on := 8, ground := Ground.phase }, { on := 9, ground := Ground.phase }, { on := 10, ground := Ground.textOnly Departure.lateStores }, { on := 11, ground := Ground.phase }], guard := none }) rfl (fun K hK => ?_) AllReadyH.nil)
            first
              | (have HEB := (OwnC.new w2 [.int .i64 0, .slice none 0 0, .slice none 0 0] 28 _ rfl).keep (grew_trans (grew_drew (grew_refl _)) (grew_trans HR4.out HR5.out)); have e0 : w5.cell? ⟨w2.heap.size, 0, none⟩ = some (.int .i64 0) := HEB.at 0 _ rfl; have g0 : w5.frozen? ⟨w2.heap.size, 0, none⟩ = false := HEB.fr 0 (by show 0 < 3; omega); have e1 : w5.cell? ⟨w2.heap.size, 1, none⟩ = some (.slice none 0 0) := HEB.at 1 _ rfl; have g1 : w5.frozen? ⟨w2.heap.size, 1, none⟩ = false := HEB.fr 1 (by show 1 < 3; omega); have e2 : w5.cell? ⟨w2.heap.size, 2, none⟩ = some (.slice none 0 0) := HEB.at 2 _ rfl; have g2 : w5.frozen? ⟨w2.heap.size, 2, none⟩ = false := HEB.fr 2 (by show 2 < 3; omega); clear HEB)
              | (have HEB := (OwnC.new w4 [.int .i64 0, .slice none 0 0, .slice none 0 0] 28 _ rfl).keep HR5.out; have e0 : w5.cell? ⟨w4.heap.size, 0, none⟩ = some (.int .i64 0) := HEB.at 0 _ rfl; have g0 : w5.frozen? ⟨w4.heap.size, 0, none⟩ = false := HEB.fr 0 (by show 0 < 3; omega); have e1 : w5.cell? ⟨w4.heap.size, 1, none⟩ = some (.slice none 0 0) := HEB.at 1 _ rfl; have g1 : w5.frozen? ⟨w4.heap.size, 1, none⟩ = false := HEB.fr 1 (by show 1 < 3; omega); have e2 : w5.cell? ⟨w4.heap.size, 2, none⟩ = some (.slice none 0 0) := HEB.at 2 _ rfl; have g2 : w5.frozen? ⟨w4.heap.size, 2, none⟩ = false := HEB.fr 2 (by show 2 < 3; omega); clear HEB)
              | skip
            go_simp
            refine hK.out _ _ ?_ (fun hHeld => ?_)
            · first
              | exact HS.out _ (grew_trans HG5.out (grew_alloc _ _ _))
              | exact HSO.out _ (OwnC.putO (b2 := w2.heap.size) (by omega) [.int .i64 nx, .slice A' lt.length c', .slice A'' pl.length c''] 0 _ (HX2.out.keep HG5.out)) (HTC.out _ (grew_put (w := w) (w2.heap.size) (by omega) [.int .i64 nx, .slice A' lt.length c', .slice A'' pl.length c''] 0 _ (grew_trans HG2.out HG5.out)))
              | exact HSO.out _ (OwnC.putO (b2 := w4.heap.size) (by omega) [.int .i64 nx, .slice A' lt.length c', .slice A'' pl.length c''] 0 _ (HX2.out.keep HG5.out)) (HTC.out _ (grew_put (w := w) (w4.heap.size) (by omega) [.int .i64 nx, .slice A' lt.length c', .slice A'' pl.length c''] 0 _ (grew_trans HG2.out HG5.out)))
            clear hK K
            try simp only [Act.put, List.setIfInBounds_toArray, List.set_cons_zero, List.set_cons_succ]
            (refine wpAnyH_take (i := 13) (oi := { dst := some 9, op := Op.assign (Operand.tmp 32), type := 34, pos := "book.go:87", after := #[{ on := 10, ground := Ground.data }, { on := 12, ground := Ground.chain }, { on := 0, ground := Ground.phase }, { on := 1, ground := Ground.phase }, { on := 2, ground := Ground.phase }, { on := 3, ground := Ground.phase }, { on := 4, ground := Ground.phase }, { on := 5, ground := Ground.phase }, { on := 6, ground := Ground.phase }, { on := 7, ground := Ground.phase }, { on := 8, ground := Ground.phase }, { on := 9, ground := Ground.phase }, { on := 10, ground := Ground.phase }, { on := 11, ground := Ground.phase }, { on := 12, ground := Ground.phase }], guard := none }) (v := ?_) rfl (by kernel_rfl) (by kernel_rfl) (by kernel_rfl) (fun _ _ _ h => h) (Or.inl ⟨by rfl, ?_⟩) (by assumption) ?_; rotate_left; · (intro w hSw; (try dsimp only at hSw); go_simp; (first | done | with_reducible rfl)))
            try simp only [Act.put, List.setIfInBounds_toArray, List.set_cons_zero, List.set_cons_succ]
            refine wpAnyH_done (by kernel_rfl) ?_ _
            clear hHeld
            first
              | (have hsb : w2.heap.size + 1 ≤ w4.heap.size := (by have h9 := (HR4.out : Below _ _ _).size; simp at h9; omega); have HA : Hid (AtE w ((((w5).setCell ⟨w2.heap.size, 0, none⟩ (.int .i64 nx)).setCell ⟨w2.heap.size, 1, none⟩ (.slice A' lt.length c')).setCell ⟨w2.heap.size, 2, none⟩ (.slice A'' pl.length c'')) (w2.heap.size) (w.heap.size) (w.heap.size + 1) [.int .i64 nx, .slice A' lt.length c', .slice A'' pl.length c''] [.int .i64 nx, .slice (some ⟨bb, o, none⟩) n1 c1, .slice A2 n2 c2] [.int .i64 0, .slice none 0 0, .slice none 0 0] A' A'' lt.length pl.length c' c'' lt pl) := AtE.new (b := (nx, lt, pl)) (vs := [.int .i64 nx, .slice A' lt.length c', .slice A'' pl.length c'']) (((OwnC.new w2 [.int .i64 0, .slice none 0 0, .slice none 0 0] 28 _ rfl).keep (grew_trans (grew_drew (grew_refl _)) (grew_trans HR4.out HR5.out)))) (HX2.out.keep HG5.out) (HZ2.out.keep HG5.out) (HB5.out) (by omega) (fun x hx => by have := (HB5.out.t.block x hx).1; omega) (fun x hx => by have := (HB5.out.p.block x hx).1; omega) (grew_trans HG2.out HG5.out) ⟨by omega, by omega, by omega⟩ rfl; generalize (((w5).setCell ⟨w2.heap.size, 0, none⟩ (.int .i64 nx)).setCell ⟨w2.heap.size, 1, none⟩ (.slice A' lt.length c')).setCell ⟨w2.heap.size, 2, none⟩ (.slice A'' pl.length c'') = wE at *; generalize hE : w2.heap.size = E at *)
              | (have hsc : w4.heap.size + 1 ≤ (w4.alloc (.cells #[.int .i64 0, .slice none 0 0, .slice none 0 0] 28)).heap.size := (by simp); have HA : Hid (AtE w ((((w5).setCell ⟨w4.heap.size, 0, none⟩ (.int .i64 nx)).setCell ⟨w4.heap.size, 1, none⟩ (.slice A' lt.length c')).setCell ⟨w4.heap.size, 2, none⟩ (.slice A'' pl.length c'')) (w4.heap.size) (w.heap.size) (w.heap.size + 1) [.int .i64 nx, .slice A' lt.length c', .slice A'' pl.length c''] [.int .i64 nx, .slice (some ⟨bb, o, none⟩) n1 c1, .slice A2 n2 c2] [.int .i64 0, .slice none 0 0, .slice none 0 0] A' A'' lt.length pl.length c' c'' lt pl) := AtE.new (b := (nx, lt, pl)) (vs := [.int .i64 nx, .slice A' lt.length c', .slice A'' pl.length c'']) (((OwnC.new w4 [.int .i64 0, .slice none 0 0, .slice none 0 0] 28 _ rfl).keep HR5.out)) (HX2.out.keep HG5.out) (HZ2.out.keep HG5.out) (HB5.out) (by omega) (fun x hx => by have := (HB5.out.t.block x hx).1; omega) (fun x hx => by have := (HB5.out.p.block x hx).1; omega) (grew_trans HG2.out HG5.out) ⟨by omega, by omega, by omega⟩ rfl; generalize (((w5).setCell ⟨w4.heap.size, 0, none⟩ (.int .i64 nx)).setCell ⟨w4.heap.size, 1, none⟩ (.slice A' lt.length c')).setCell ⟨w4.heap.size, 2, none⟩ (.slice A'' pl.length c'') = wE at *; generalize hE : w4.heap.size = E at *)
              | (have HA : Hid (AtE w (w5.alloc (.cells #[.int .i64 nx, .slice A' lt.length c', .slice A'' pl.length c''] 28)) (w5.heap.size) (w.heap.size) (w.heap.size + 1) [.int .i64 nx, .slice A' lt.length c', .slice A'' pl.length c''] [.int .i64 nx, .slice (some ⟨bb, o, none⟩) n1 c1, .slice A2 n2 c2] [.int .i64 0, .slice none 0 0, .slice none 0 0] A' A'' lt.length pl.length c' c'' lt pl) := AtE.lay (b := (nx, lt, pl)) (vs := [.int .i64 nx, .slice A' lt.length c', .slice A'' pl.length c'']) (OwnC.new w5 [.int .i64 nx, .slice A' lt.length c', .slice A'' pl.length c''] _ _ rfl) ((HX2.out.keep HG5.out).keep (grew_alloc _ _ _)) ((HZ2.out.keep HG5.out).keep (grew_alloc _ _ _)) (HB5.out.keep (grew_alloc _ _ _)) (by omega) (fun x hx => by have := (HB5.out.t.block x hx).2; omega) (fun x hx => by have := (HB5.out.p.block x hx).2; omega) (grew_trans HG2.out (grew_trans HG5.out (grew_alloc _ _ _))) ⟨by omega, by omega, by omega⟩; generalize w5.alloc (.cells #[.int .i64 nx, .slice A' lt.length c', .slice A'' pl.length c''] 28) = wE at *; generalize hE : w5.heap.size = E at *)
            clear HS HSO HB5 HO4 HG5 HR5 HG4 HR4 HS4 HS5 HS2a
            obtain ⟨gr, rfl, hgl, hgf, hgc, hoff⟩ := HA.out.offAt rfl (j := i) i1
            have HA1 := Lib.hid hoff
            have e1 : wE.cell? ⟨E, 1, none⟩ = some (.slice (some ⟨gr, 0, none⟩) lt.length c') := HA.out.ce.at 1 _ rfl
            have k3 : (i : Int) < (lt.length : Int) := by omega
            rw [HTT.out] at hgc
            dsimp only at hgc
            clear hoff
            apply_assumption
            go_upto_region 11 with fail
            rw [HTT.out] at HA1
            dsimp only at HA1 HYES
            clear HA e1 hgf hgc hgl
            generalize wE.setCell ⟨gr, i * 7 + 6, none⟩ (.bool true) = wF at *
            have e0 : wF.cell? ⟨E, 0, none⟩ = some (.int .i64 nx) := HA1.out.ce.at 0 _ rfl
            have e1 : wF.cell? ⟨E, 1, none⟩ = some (.slice (some ⟨gr, 0, none⟩) lt.length c') := HA1.out.ce.at 1 _ rfl
            have e2 : wF.cell? ⟨E, 2, none⟩ = some (.slice A'' pl.length c'') := HA1.out.ce.at 2 _ rfl
            have y0 : wF.cell? ⟨w.heap.size + 1, 0, none⟩ = some (.int .i64 0) := HA1.out.cz.at 0 _ rfl
            have f0 : wF.frozen? ⟨w.heap.size + 1, 0, none⟩ = false := HA1.out.cz.fr 0 (by show 0 < 3; omega)
            have y1 : wF.cell? ⟨w.heap.size + 1, 1, none⟩ = some (.slice none 0 0) := HA1.out.cz.at 1 _ rfl
            have f1 : wF.frozen? ⟨w.heap.size + 1, 1, none⟩ = false := HA1.out.cz.fr 1 (by show 1 < 3; omega)
            have y2 : wF.cell? ⟨w.heap.size + 1, 2, none⟩ = some (.slice none 0 0) := HA1.out.cz.at 2 _ rfl
            have f2 : wF.frozen? ⟨w.heap.size + 1, 2, none⟩ = false := HA1.out.cz.fr 2 (by show 2 < 3; omega)
            go_wp2
            have HA2 := Lib.hid (HA1.out.putZ [.int .i64 nx, .slice (some ⟨gr, 0, none⟩) lt.length c', .slice A'' pl.length c''] rfl)
            change bodyPost _ _ _ _ _ (putC wF (w.heap.size + 1) 0 [.int .i64 nx, .slice (some ⟨gr, 0, none⟩) lt.length c', .slice A'' pl.length c''])
            clear y0 y1 y2 f0 f1 f2 e0 e1 e2 HA1
            generalize putC wF (w.heap.size + 1) 0 [.int .i64 nx, .slice (some ⟨gr, 0, none⟩) lt.length c', .slice A'' pl.length c''] = w9 at *
            have z0 : w9.cell? ⟨w.heap.size + 1, 0, none⟩ = _ := HA2.out.cz.at 0 _ rfl
            have z1 : w9.cell? ⟨w.heap.size + 1, 1, none⟩ = _ := HA2.out.cz.at 1 _ rfl
            have z2 : w9.cell? ⟨w.heap.size + 1, 2, none⟩ = _ := HA2.out.cz.at 2 _ rfl
            refine bodyPost_ret (v := .tuple #[.agg #[.int .i64 nx, .slice (some ⟨gr, 0, none⟩) lt.length c', .slice A'' pl.length c''], .int .i64 0]) (by simp [results, Tryz.results27, go_sem, z0, z1, z2]) rfl ?_
            exact HYES.out _ _ _ _ _ (HA2.out.own (by simp) rfl nx) HA2.out.gr
          · go_simp
            refine hK.out _ _ ?_ (fun hHeld => ?_)
            · first
              | exact HS2a
              | exact HS4a
              | exact HS5a
            clear hK K
            try simp only [Act.put, List.setIfInBounds_toArray, List.set_cons_zero, List.set_cons_succ]
            refine wpAnyH_ready (rs := [7]) (by kernel_rfl) (by simp) ?_
            refine (AllReadyH.cons (o := { dst := some 30, op := Op.call { callee := Callee.value (Operand.func 52), args := #[Operand.tmp 23, Operand.tmp 29], argTypes := #[28, 26] }, type := 43, pos := "book.go:87", after := #[{ on := 0, ground := Ground.data }, { on := 6, ground := Ground.data }, { on := 6, ground := Ground.chain }], guard := none }) rfl (fun K hK => ?_) AllReadyH.nil)
            go_simp
            (go_at_call 52; (with_reducible refine (CA _ _ _ (grew_trans HG2.out (grew_trans HG4.out (by repeat (first | exact grew_refl _ | refine grew_drew ?_ | refine grew_trans ?_ (grew_alloc _ _ _))))) (HO4.out.keep (by repeat (first | exact grew_refl _ | refine grew_drew ?_ | refine grew_trans ?_ (grew_alloc _ _ _))))).mono ?_); rintro e w5 ⟨A', A'', c', c'', rfl, hb, hg⟩; have HB5 := Lib.hid hb; have HR5 := Lib.hid hg; have HG5 : Hid (Grew w2 w5) := grew_trans HG4.out (grew_trans (by repeat (first | exact grew_refl _ | refine grew_drew ?_ | refine grew_trans ?_ (grew_alloc _ _ _))) hg); have HS5 := HS.out _ HG5.out; have HS5a := HS.out _ (grew_trans HG5.out (grew_alloc w5 #[.int .i64 0, .slice none 0 0, .slice none 0 0] 28)); have hs5 : w4.heap.size ≤ w5.heap.size := (grew_trans (c := w5) (by repeat (first | exact grew_refl _ | refine grew_drew ?_ | refine grew_trans ?_ (grew_alloc _ _ _))) hg : Grew w4 w5).size; clear hb hg)
            refine hK.out _ _ ?_ (fun hHeld => ?_)
            · first
              | exact HS5
            clear hK K
            try simp only [Act.put, List.setIfInBounds_toArray, List.set_cons_zero, List.set_cons_succ]
            (refine wpAnyH_take (i := 8) (oi := { dst := some 22, op := Op.move (Operand.tmp 30), type := 43, pos := "book.go:87", after := #[{ on := 7, ground := Ground.data }], guard := none }) (v := ?_) rfl (by kernel_rfl) (by kernel_rfl) (by kernel_rfl) (fun _ _ _ h => h) (Or.inl ⟨by rfl, ?_⟩) (by assumption) ?_; rotate_left; · (intro w hSw; (try dsimp only at hSw); go_simp; (first | done | with_reducible rfl)))
            try simp only [Act.put, List.setIfInBounds_toArray, List.set_cons_zero, List.set_cons_succ]
            (refine wpAnyH_take (i := 9) (oi := { dst := some 31, op := Op.extract (Operand.tmp 22) 0, type := 28, pos := "book.go:87", after := #[{ on := 8, ground := Ground.data }], guard := none }) (v := ?_) rfl (by kernel_rfl) (by kernel_rfl) (by kernel_rfl) (fun _ _ _ h => h) (Or.inl ⟨by rfl, ?_⟩) (by assumption) ?_; rotate_left; · (intro w hSw; (try dsimp only at hSw); go_simp; (first | done | with_reducible rfl)))
            try simp only [Act.put, List.setIfInBounds_toArray, List.set_cons_zero, List.set_cons_succ]
            (refine wpAnyH_take (i := 10) (oi := { dst := some 32, op := Op.extract (Operand.tmp 22) 1, type := 34, pos := "book.go:87", after := #[{ on := 8, ground := Ground.data }, { on := 12, ground := Ground.gcOnly Departure.lateStores }], guard := none }) (v := ?_) rfl (by kernel_rfl) (by kernel_rfl) (by kernel_rfl) (fun _ _ _ h => h) (Or.inl ⟨by rfl, ?_⟩) (by assumption) ?_; rotate_left; · (intro w hSw; (try dsimp only at hSw); go_simp; (first | done | with_reducible rfl)))
            try simp only [Act.put, List.setIfInBounds_toArray, List.set_cons_zero, List.set_cons_succ]
            refine wpAnyH_ready (rs := [12]) (by kernel_rfl) (by simp) ?_
            refine (AllReadyH.cons (o := { dst := none, op := Op.store 28 (Operand.tmp 8) (Operand.tmp 31), type := 0, pos := "book.go:87", after := #[{ on := 11, ground := Ground.data }, { on := 9, ground := Ground.data }, { on := 7, ground := Ground.chain }, { on := 0, ground := Ground.phase }, { on := 1, ground := Ground.phase }, { on := 2, ground := Ground.phase }, { on := 3, ground := Ground.phase }, { on := 4, ground := Ground.phase }, { on := 5, ground := Ground.phase }, { on := 6, ground := Ground.phase }, { on := 7, ground := Ground.phase }, { on := 8, ground := Ground.phase }, { on := 9, ground := Ground.phase }, { on := 10, ground := Ground.textOnly Departure.lateStores }, { on := 11, ground := Ground.phase }], guard := none }) rfl (fun K hK => ?_) AllReadyH.nil)
            first
              | (have HEB := (OwnC.new w2 [.int .i64 0, .slice none 0 0, .slice none 0 0] 28 _ rfl).keep (grew_trans (grew_drew (grew_refl _)) (grew_trans HR4.out HR5.out)); have e0 : w5.cell? ⟨w2.heap.size, 0, none⟩ = some (.int .i64 0) := HEB.at 0 _ rfl; have g0 : w5.frozen? ⟨w2.heap.size, 0, none⟩ = false := HEB.fr 0 (by show 0 < 3; omega); have e1 : w5.cell? ⟨w2.heap.size, 1, none⟩ = some (.slice none 0 0) := HEB.at 1 _ rfl; have g1 : w5.frozen? ⟨w2.heap.size, 1, none⟩ = false := HEB.fr 1 (by show 1 < 3; omega); have e2 : w5.cell? ⟨w2.heap.size, 2, none⟩ = some (.slice none 0 0) := HEB.at 2 _ rfl; have g2 : w5.frozen? ⟨w2.heap.size, 2, none⟩ = false := HEB.fr 2 (by show 2 < 3; omega); clear HEB)
              | (have HEB := (OwnC.new w4 [.int .i64 0, .slice none 0 0, .slice none 0 0] 28 _ rfl).keep HR5.out; have e0 : w5.cell? ⟨w4.heap.size, 0, none⟩ = some (.int .i64 0) := HEB.at 0 _ rfl; have g0 : w5.frozen? ⟨w4.heap.size, 0, none⟩ = false := HEB.fr 0 (by show 0 < 3; omega); have e1 : w5.cell? ⟨w4.heap.size, 1, none⟩ = some (.slice none 0 0) := HEB.at 1 _ rfl; have g1 : w5.frozen? ⟨w4.heap.size, 1, none⟩ = false := HEB.fr 1 (by show 1 < 3; omega); have e2 : w5.cell? ⟨w4.heap.size, 2, none⟩ = some (.slice none 0 0) := HEB.at 2 _ rfl; have g2 : w5.frozen? ⟨w4.heap.size, 2, none⟩ = false := HEB.fr 2 (by show 2 < 3; omega); clear HEB)
              | skip
            go_simp
            refine hK.out _ _ ?_ (fun hHeld => ?_)
            · first
              | exact HS.out _ (grew_trans HG5.out (grew_alloc _ _ _))
              | exact HSO.out _ (OwnC.putO (b2 := w2.heap.size) (by omega) [.int .i64 nx, .slice A' lt.length c', .slice A'' pl.length c''] 0 _ (HX2.out.keep HG5.out)) (HTC.out _ (grew_put (w := w) (w2.heap.size) (by omega) [.int .i64 nx, .slice A' lt.length c', .slice A'' pl.length c''] 0 _ (grew_trans HG2.out HG5.out)))
              | exact HSO.out _ (OwnC.putO (b2 := w4.heap.size) (by omega) [.int .i64 nx, .slice A' lt.length c', .slice A'' pl.length c''] 0 _ (HX2.out.keep HG5.out)) (HTC.out _ (grew_put (w := w) (w4.heap.size) (by omega) [.int .i64 nx, .slice A' lt.length c', .slice A'' pl.length c''] 0 _ (grew_trans HG2.out HG5.out)))
            clear hK K
            try simp only [Act.put, List.setIfInBounds_toArray, List.set_cons_zero, List.set_cons_succ]
            (refine wpAnyH_take (i := 13) (oi := { dst := some 9, op := Op.assign (Operand.tmp 32), type := 34, pos := "book.go:87", after := #[{ on := 10, ground := Ground.data }, { on := 12, ground := Ground.chain }, { on := 0, ground := Ground.phase }, { on := 1, ground := Ground.phase }, { on := 2, ground := Ground.phase }, { on := 3, ground := Ground.phase }, { on := 4, ground := Ground.phase }, { on := 5, ground := Ground.phase }, { on := 6, ground := Ground.phase }, { on := 7, ground := Ground.phase }, { on := 8, ground := Ground.phase }, { on := 9, ground := Ground.phase }, { on := 10, ground := Ground.phase }, { on := 11, ground := Ground.phase }, { on := 12, ground := Ground.phase }], guard := none }) (v := ?_) rfl (by kernel_rfl) (by kernel_rfl) (by kernel_rfl) (fun _ _ _ h => h) (Or.inl ⟨by rfl, ?_⟩) (by assumption) ?_; rotate_left; · (intro w hSw; (try dsimp only at hSw); go_simp; (first | done | with_reducible rfl)))
            try simp only [Act.put, List.setIfInBounds_toArray, List.set_cons_zero, List.set_cons_succ]
            refine wpAnyH_done (by kernel_rfl) ?_ _
            clear hHeld
            first
              | (have hsb : w2.heap.size + 1 ≤ w4.heap.size := (by have h9 := (HR4.out : Below _ _ _).size; simp at h9; omega); have HA : Hid (AtE w ((((w5).setCell ⟨w2.heap.size, 0, none⟩ (.int .i64 nx)).setCell ⟨w2.heap.size, 1, none⟩ (.slice A' lt.length c')).setCell ⟨w2.heap.size, 2, none⟩ (.slice A'' pl.length c'')) (w2.heap.size) (w.heap.size) (w.heap.size + 1) [.int .i64 nx, .slice A' lt.length c', .slice A'' pl.length c''] [.int .i64 nx, .slice (some ⟨bb, o, none⟩) n1 c1, .slice A2 n2 c2] [.int .i64 0, .slice none 0 0, .slice none 0 0] A' A'' lt.length pl.length c' c'' lt pl) := AtE.new (b := (nx, lt, pl)) (vs := [.int .i64 nx, .slice A' lt.length c', .slice A'' pl.length c'']) (((OwnC.new w2 [.int .i64 0, .slice none 0 0, .slice none 0 0] 28 _ rfl).keep (grew_trans (grew_drew (grew_refl _)) (grew_trans HR4.out HR5.out)))) (HX2.out.keep HG5.out) (HZ2.out.keep HG5.out) (HB5.out) (by omega) (fun x hx => by have := (HB5.out.t.block x hx).1; omega) (fun x hx => by have := (HB5.out.p.block x hx).1; omega) (grew_trans HG2.out HG5.out) ⟨by omega, by omega, by omega⟩ rfl; generalize (((w5).setCell ⟨w2.heap.size, 0, none⟩ (.int .i64 nx)).setCell ⟨w2.heap.size, 1, none⟩ (.slice A' lt.length c')).setCell ⟨w2.heap.size, 2, none⟩ (.slice A'' pl.length c'') = wE at *; generalize hE : w2.heap.size = E at *)
              | (have hsc : w4.heap.size + 1 ≤ (w4.alloc (.cells #[.int .i64 0, .slice none 0 0, .slice none 0 0] 28)).heap.size := (by simp); have HA : Hid (AtE w ((((w5).setCell ⟨w4.heap.size, 0, none⟩ (.int .i64 nx)).setCell ⟨w4.heap.size, 1, none⟩ (.slice A' lt.length c')).setCell ⟨w4.heap.size, 2, none⟩ (.slice A'' pl.length c'')) (w4.heap.size) (w.heap.size) (w.heap.size + 1) [.int .i64 nx, .slice A' lt.length c', .slice A'' pl.length c''] [.int .i64 nx, .slice (some ⟨bb, o, none⟩) n1 c1, .slice A2 n2 c2] [.int .i64 0, .slice none 0 0, .slice none 0 0] A' A'' lt.length pl.length c' c'' lt pl) := AtE.new (b := (nx, lt, pl)) (vs := [.int .i64 nx, .slice A' lt.length c', .slice A'' pl.length c'']) (((OwnC.new w4 [.int .i64 0, .slice none 0 0, .slice none 0 0] 28 _ rfl).keep HR5.out)) (HX2.out.keep HG5.out) (HZ2.out.keep HG5.out) (HB5.out) (by omega) (fun x hx => by have := (HB5.out.t.block x hx).1; omega) (fun x hx => by have := (HB5.out.p.block x hx).1; omega) (grew_trans HG2.out HG5.out) ⟨by omega, by omega, by omega⟩ rfl; generalize (((w5).setCell ⟨w4.heap.size, 0, none⟩ (.int .i64 nx)).setCell ⟨w4.heap.size, 1, none⟩ (.slice A' lt.length c')).setCell ⟨w4.heap.size, 2, none⟩ (.slice A'' pl.length c'') = wE at *; generalize hE : w4.heap.size = E at *)
              | (have HA : Hid (AtE w (w5.alloc (.cells #[.int .i64 nx, .slice A' lt.length c', .slice A'' pl.length c''] 28)) (w5.heap.size) (w.heap.size) (w.heap.size + 1) [.int .i64 nx, .slice A' lt.length c', .slice A'' pl.length c''] [.int .i64 nx, .slice (some ⟨bb, o, none⟩) n1 c1, .slice A2 n2 c2] [.int .i64 0, .slice none 0 0, .slice none 0 0] A' A'' lt.length pl.length c' c'' lt pl) := AtE.lay (b := (nx, lt, pl)) (vs := [.int .i64 nx, .slice A' lt.length c', .slice A'' pl.length c'']) (OwnC.new w5 [.int .i64 nx, .slice A' lt.length c', .slice A'' pl.length c''] _ _ rfl) ((HX2.out.keep HG5.out).keep (grew_alloc _ _ _)) ((HZ2.out.keep HG5.out).keep (grew_alloc _ _ _)) (HB5.out.keep (grew_alloc _ _ _)) (by omega) (fun x hx => by have := (HB5.out.t.block x hx).2; omega) (fun x hx => by have := (HB5.out.p.block x hx).2; omega) (grew_trans HG2.out (grew_trans HG5.out (grew_alloc _ _ _))) ⟨by omega, by omega, by omega⟩; generalize w5.alloc (.cells #[.int .i64 nx, .slice A' lt.length c', .slice A'' pl.length c''] 28) = wE at *; generalize hE : w5.heap.size = E at *)
            clear HS HSO HB5 HO4 HG5 HR5 HG4 HR4 HS4 HS5 HS2a
            obtain ⟨gr, rfl, hgl, hgf, hgc, hoff⟩ := HA.out.offAt rfl (j := i) i1
            have HA1 := Lib.hid hoff
            have e1 : wE.cell? ⟨E, 1, none⟩ = some (.slice (some ⟨gr, 0, none⟩) lt.length c') := HA.out.ce.at 1 _ rfl
            have k3 : (i : Int) < (lt.length : Int) := by omega
            rw [HTT.out] at hgc
            dsimp only at hgc
            clear hoff
            apply_assumption
            go_upto_region 11 with fail
            rw [HTT.out] at HA1
            dsimp only at HA1 HYES
            clear HA e1 hgf hgc hgl
            generalize wE.setCell ⟨gr, i * 7 + 6, none⟩ (.bool true) = wF at *
            have e0 : wF.cell? ⟨E, 0, none⟩ = some (.int .i64 nx) := HA1.out.ce.at 0 _ rfl
            have e1 : wF.cell? ⟨E, 1, none⟩ = some (.slice (some ⟨gr, 0, none⟩) lt.length c') := HA1.out.ce.at 1 _ rfl
            have e2 : wF.cell? ⟨E, 2, none⟩ = some (.slice A'' pl.length c'') := HA1.out.ce.at 2 _ rfl
            have y0 : wF.cell? ⟨w.heap.size + 1, 0, none⟩ = some (.int .i64 0) := HA1.out.cz.at 0 _ rfl
            have f0 : wF.frozen? ⟨w.heap.size + 1, 0, none⟩ = false := HA1.out.cz.fr 0 (by show 0 < 3; omega)
            have y1 : wF.cell? ⟨w.heap.size + 1, 1, none⟩ = some (.slice none 0 0) := HA1.out.cz.at 1 _ rfl
            have f1 : wF.frozen? ⟨w.heap.size + 1, 1, none⟩ = false := HA1.out.cz.fr 1 (by show 1 < 3; omega)
            have y2 : wF.cell? ⟨w.heap.size + 1, 2, none⟩ = some (.slice none 0 0) := HA1.out.cz.at 2 _ rfl
            have f2 : wF.frozen? ⟨w.heap.size + 1, 2, none⟩ = false := HA1.out.cz.fr 2 (by show 2 < 3; omega)
            go_wp2
            have HA2 := Lib.hid (HA1.out.putZ [.int .i64 nx, .slice (some ⟨gr, 0, none⟩) lt.length c', .slice A'' pl.length c''] rfl)
            change bodyPost _ _ _ _ _ (putC wF (w.heap.size + 1) 0 [.int .i64 nx, .slice (some ⟨gr, 0, none⟩) lt.length c', .slice A'' pl.length c''])
            clear y0 y1 y2 f0 f1 f2 e0 e1 e2 HA1
            generalize putC wF (w.heap.size + 1) 0 [.int .i64 nx, .slice (some ⟨gr, 0, none⟩) lt.length c', .slice A'' pl.length c''] = w9 at *
            have z0 : w9.cell? ⟨w.heap.size + 1, 0, none⟩ = _ := HA2.out.cz.at 0 _ rfl
            have z1 : w9.cell? ⟨w.heap.size + 1, 1, none⟩ = _ := HA2.out.cz.at 1 _ rfl
            have z2 : w9.cell? ⟨w.heap.size + 1, 2, none⟩ = _ := HA2.out.cz.at 2 _ rfl
            refine bodyPost_ret (v := .tuple #[.agg #[.int .i64 nx, .slice (some ⟨gr, 0, none⟩) lt.length c', .slice A'' pl.length c''], .int .i64 0]) (by simp [results, Tryz.results27, go_sem, z0, z1, z2]) rfl ?_
            exact HYES.out _ _ _ _ _ (HA2.out.own (by simp) rfl nx) HA2.out.gr
        · go_simp
          refine hK.out _ _ ?_ (fun hHeld => ?_)
          · first
            | exact HS2a
            | exact HS4a
            | exact HS5a
          clear hK K
          try simp only [Act.put, List.setIfInBounds_toArray, List.set_cons_zero, List.set_cons_succ]
          refine wpAnyH_ready (rs := [6]) (by kernel_rfl) (by simp) ?_
          refine (AllReadyH.cons (o := { dst := some 29, op := Op.call { callee := Callee.value (Operand.func 53), args := #[Operand.tmp 28], argTypes := #[50] }, type := 26, pos := "book.go:87", after := #[{ on := 5, ground := Ground.data }], guard := none }) rfl (fun K hK => ?_) AllReadyH.nil)
          go_simp
          (go_at_call 53; (with_reducible refine (CL _).mono ?_); rintro e w4 ⟨A3, c3, rfl, ho, hg⟩; have HR4 := Lib.hid hg; have HG4 : Hid (Grew w2 w4) := grew_trans (by repeat (first | exact grew_refl _ | refine grew_drew ?_ | refine grew_trans ?_ (grew_alloc _ _ _))) hg; have HS4 := HS.out _ HG4.out; have HS4a := HS.out _ (grew_trans HG4.out (grew_alloc w4 #[.int .i64 0, .slice none 0 0, .slice none 0 0] 28)); have hs4 : w2.heap.size ≤ w4.heap.size := HG4.out.size; have HO4 := Lib.hid (ho.mono (Nat.zero_le _)); clear ho hg)
          refine hK.out _ _ ?_ (fun hHeld => ?_)
          · first
            | exact HS4
          clear hK K
          try simp only [Act.put, List.setIfInBounds_toArray, List.set_cons_zero, List.set_cons_succ]
          refine wpAnyH_ready (rs := [7]) (by kernel_rfl) (by simp) ?_
          refine (AllReadyH.cons (o := { dst := some 30, op := Op.call { callee := Callee.value (Operand.func 52), args := #[Operand.tmp 23, Operand.tmp 29], argTypes := #[28, 26] }, type := 43, pos := "book.go:87", after := #[{ on := 0, ground := Ground.data }, { on := 6, ground := Ground.data }, { on := 6, ground := Ground.chain }], guard := none }) rfl (fun K hK => ?_) AllReadyH.nil)
          go_simp
          (go_at_call 52; (with_reducible refine (CA _ _ _ (grew_trans HG2.out (grew_trans HG4.out (by repeat (first | exact grew_refl _ | refine grew_drew ?_ | refine grew_trans ?_ (grew_alloc _ _ _))))) (HO4.out.keep (by repeat (first | exact grew_refl _ | refine grew_drew ?_ | refine grew_trans ?_ (grew_alloc _ _ _))))).mono ?_); rintro e w5 ⟨A', A'', c', c'', rfl, hb, hg⟩; have HB5 := Lib.hid hb; have HR5 := Lib.hid hg; have HG5 : Hid (Grew w2 w5) := grew_trans HG4.out (grew_trans (by repeat (first | exact grew_refl _ | refine grew_drew ?_ | refine grew_trans ?_ (grew_alloc _ _ _))) hg); have HS5 := HS.out _ HG5.out; have HS5a := HS.out _ (grew_trans HG5.out (grew_alloc w5 #[.int .i64 0, .slice none 0 0, .slice none 0 0] 28)); have hs5 : w4.heap.size ≤ w5.heap.size := (grew_trans (c := w5) (by repeat (first | exact grew_refl _ | refine grew_drew ?_ | refine grew_trans ?_ (grew_alloc _ _ _))) hg : Grew w4 w5).size; clear hb hg)
          refine hK.out _ _ ?_ (fun hHeld => ?_)
          · first
            | exact HS5
          clear hK K
          try simp only [Act.put, List.setIfInBounds_toArray, List.set_cons_zero, List.set_cons_succ]
          (refine wpAnyH_take (i := 8) (oi := { dst := some 22, op := Op.move (Operand.tmp 30), type := 43, pos := "book.go:87", after := #[{ on := 7, ground := Ground.data }], guard := none }) (v := ?_) rfl (by kernel_rfl) (by kernel_rfl) (by kernel_rfl) (fun _ _ _ h => h) (Or.inl ⟨by rfl, ?_⟩) (by assumption) ?_; rotate_left; · (intro w hSw; (try dsimp only at hSw); go_simp; (first | done | with_reducible rfl)))
          try simp only [Act.put, List.setIfInBounds_toArray, List.set_cons_zero, List.set_cons_succ]
          (refine wpAnyH_take (i := 9) (oi := { dst := some 31, op := Op.extract (Operand.tmp 22) 0, type := 28, pos := "book.go:87", after := #[{ on := 8, ground := Ground.data }], guard := none }) (v := ?_) rfl (by kernel_rfl) (by kernel_rfl) (by kernel_rfl) (fun _ _ _ h => h) (Or.inl ⟨by rfl, ?_⟩) (by assumption) ?_; rotate_left; · (intro w hSw; (try dsimp only at hSw); go_simp; (first | done | with_reducible rfl)))
          try simp only [Act.put, List.setIfInBounds_toArray, List.set_cons_zero, List.set_cons_succ]
          (refine wpAnyH_take (i := 10) (oi := { dst := some 32, op := Op.extract (Operand.tmp 22) 1, type := 34, pos := "book.go:87", after := #[{ on := 8, ground := Ground.data }, { on := 12, ground := Ground.gcOnly Departure.lateStores }], guard := none }) (v := ?_) rfl (by kernel_rfl) (by kernel_rfl) (by kernel_rfl) (fun _ _ _ h => h) (Or.inl ⟨by rfl, ?_⟩) (by assumption) ?_; rotate_left; · (intro w hSw; (try dsimp only at hSw); go_simp; (first | done | with_reducible rfl)))
          try simp only [Act.put, List.setIfInBounds_toArray, List.set_cons_zero, List.set_cons_succ]
          refine wpAnyH_ready (rs := [12]) (by kernel_rfl) (by simp) ?_
          refine (AllReadyH.cons (o := { dst := none, op := Op.store 28 (Operand.tmp 8) (Operand.tmp 31), type := 0, pos := "book.go:87", after := #[{ on := 11, ground := Ground.data }, { on := 9, ground := Ground.data }, { on := 7, ground := Ground.chain }, { on := 0, ground := Ground.phase }, { on := 1, ground := Ground.phase }, { on := 2, ground := Ground.phase }, { on := 3, ground := Ground.phase }, { on := 4, ground := Ground.phase }, { on := 5, ground := Ground.phase }, { on := 6, ground := Ground.phase }, { on := 7, ground := Ground.phase }, { on := 8, ground := Ground.phase }, { on := 9, ground := Ground.phase }, { on := 10, ground := Ground.textOnly Departure.lateStores }, { on := 11, ground := Ground.phase }], guard := none }) rfl (fun K hK => ?_) AllReadyH.nil)
          first
            | (have HEB := (OwnC.new w2 [.int .i64 0, .slice none 0 0, .slice none 0 0] 28 _ rfl).keep (grew_trans (grew_drew (grew_refl _)) (grew_trans HR4.out HR5.out)); have e0 : w5.cell? ⟨w2.heap.size, 0, none⟩ = some (.int .i64 0) := HEB.at 0 _ rfl; have g0 : w5.frozen? ⟨w2.heap.size, 0, none⟩ = false := HEB.fr 0 (by show 0 < 3; omega); have e1 : w5.cell? ⟨w2.heap.size, 1, none⟩ = some (.slice none 0 0) := HEB.at 1 _ rfl; have g1 : w5.frozen? ⟨w2.heap.size, 1, none⟩ = false := HEB.fr 1 (by show 1 < 3; omega); have e2 : w5.cell? ⟨w2.heap.size, 2, none⟩ = some (.slice none 0 0) := HEB.at 2 _ rfl; have g2 : w5.frozen? ⟨w2.heap.size, 2, none⟩ = false := HEB.fr 2 (by show 2 < 3; omega); clear HEB)
            | (have HEB := (OwnC.new w4 [.int .i64 0, .slice none 0 0, .slice none 0 0] 28 _ rfl).keep HR5.out; have e0 : w5.cell? ⟨w4.heap.size, 0, none⟩ = some (.int .i64 0) := HEB.at 0 _ rfl; have g0 : w5.frozen? ⟨w4.heap.size, 0, none⟩ = false := HEB.fr 0 (by show 0 < 3; omega); have e1 : w5.cell? ⟨w4.heap.size, 1, none⟩ = some (.slice none 0 0) := HEB.at 1 _ rfl; have g1 : w5.frozen? ⟨w4.heap.size, 1, none⟩ = false := HEB.fr 1 (by show 1 < 3; omega); have e2 : w5.cell? ⟨w4.heap.size, 2, none⟩ = some (.slice none 0 0) := HEB.at 2 _ rfl; have g2 : w5.frozen? ⟨w4.heap.size, 2, none⟩ = false := HEB.fr 2 (by show 2 < 3; omega); clear HEB)
            | skip
          go_simp
          refine hK.out _ _ ?_ (fun hHeld => ?_)
          · first
            | exact HS.out _ (grew_trans HG5.out (grew_alloc _ _ _))
            | exact HSO.out _ (OwnC.putO (b2 := w2.heap.size) (by omega) [.int .i64 nx, .slice A' lt.length c', .slice A'' pl.length c''] 0 _ (HX2.out.keep HG5.out)) (HTC.out _ (grew_put (w := w) (w2.heap.size) (by omega) [.int .i64 nx, .slice A' lt.length c', .slice A'' pl.length c''] 0 _ (grew_trans HG2.out HG5.out)))
            | exact HSO.out _ (OwnC.putO (b2 := w4.heap.size) (by omega) [.int .i64 nx, .slice A' lt.length c', .slice A'' pl.length c''] 0 _ (HX2.out.keep HG5.out)) (HTC.out _ (grew_put (w := w) (w4.heap.size) (by omega) [.int .i64 nx, .slice A' lt.length c', .slice A'' pl.length c''] 0 _ (grew_trans HG2.out HG5.out)))
          clear hK K
          try simp only [Act.put, List.setIfInBounds_toArray, List.set_cons_zero, List.set_cons_succ]
          (refine wpAnyH_take (i := 13) (oi := { dst := some 9, op := Op.assign (Operand.tmp 32), type := 34, pos := "book.go:87", after := #[{ on := 10, ground := Ground.data }, { on := 12, ground := Ground.chain }, { on := 0, ground := Ground.phase }, { on := 1, ground := Ground.phase }, { on := 2, ground := Ground.phase }, { on := 3, ground := Ground.phase }, { on := 4, ground := Ground.phase }, { on := 5, ground := Ground.phase }, { on := 6, ground := Ground.phase }, { on := 7, ground := Ground.phase }, { on := 8, ground := Ground.phase }, { on := 9, ground := Ground.phase }, { on := 10, ground := Ground.phase }, { on := 11, ground := Ground.phase }, { on := 12, ground := Ground.phase }], guard := none }) (v := ?_) rfl (by kernel_rfl) (by kernel_rfl) (by kernel_rfl) (fun _ _ _ h => h) (Or.inl ⟨by rfl, ?_⟩) (by assumption) ?_; rotate_left; · (intro w hSw; (try dsimp only at hSw); go_simp; (first | done | with_reducible rfl)))
          try simp only [Act.put, List.setIfInBounds_toArray, List.set_cons_zero, List.set_cons_succ]
          refine wpAnyH_done (by kernel_rfl) ?_ _
          clear hHeld
          first
            | (have hsb : w2.heap.size + 1 ≤ w4.heap.size := (by have h9 := (HR4.out : Below _ _ _).size; simp at h9; omega); have HA : Hid (AtE w ((((w5).setCell ⟨w2.heap.size, 0, none⟩ (.int .i64 nx)).setCell ⟨w2.heap.size, 1, none⟩ (.slice A' lt.length c')).setCell ⟨w2.heap.size, 2, none⟩ (.slice A'' pl.length c'')) (w2.heap.size) (w.heap.size) (w.heap.size + 1) [.int .i64 nx, .slice A' lt.length c', .slice A'' pl.length c''] [.int .i64 nx, .slice (some ⟨bb, o, none⟩) n1 c1, .slice A2 n2 c2] [.int .i64 0, .slice none 0 0, .slice none 0 0] A' A'' lt.length pl.length c' c'' lt pl) := AtE.new (b := (nx, lt, pl)) (vs := [.int .i64 nx, .slice A' lt.length c', .slice A'' pl.length c'']) (((OwnC.new w2 [.int .i64 0, .slice none 0 0, .slice none 0 0] 28 _ rfl).keep (grew_trans (grew_drew (grew_refl _)) (grew_trans HR4.out HR5.out)))) (HX2.out.keep HG5.out) (HZ2.out.keep HG5.out) (HB5.out) (by omega) (fun x hx => by have := (HB5.out.t.block x hx).1; omega) (fun x hx => by have := (HB5.out.p.block x hx).1; omega) (grew_trans HG2.out HG5.out) ⟨by omega, by omega, by omega⟩ rfl; generalize (((w5).setCell ⟨w2.heap.size, 0, none⟩ (.int .i64 nx)).setCell ⟨w2.heap.size, 1, none⟩ (.slice A' lt.length c')).setCell ⟨w2.heap.size, 2, none⟩ (.slice A'' pl.length c'') = wE at *; generalize hE : w2.heap.size = E at *)
            | (have hsc : w4.heap.size + 1 ≤ (w4.alloc (.cells #[.int .i64 0, .slice none 0 0, .slice none 0 0] 28)).heap.size := (by simp); have HA : Hid (AtE w ((((w5).setCell ⟨w4.heap.size, 0, none⟩ (.int .i64 nx)).setCell ⟨w4.heap.size, 1, none⟩ (.slice A' lt.length c')).setCell ⟨w4.heap.size, 2, none⟩ (.slice A'' pl.length c'')) (w4.heap.size) (w.heap.size) (w.heap.size + 1) [.int .i64 nx, .slice A' lt.length c', .slice A'' pl.length c''] [.int .i64 nx, .slice (some ⟨bb, o, none⟩) n1 c1, .slice A2 n2 c2] [.int .i64 0, .slice none 0 0, .slice none 0 0] A' A'' lt.length pl.length c' c'' lt pl) := AtE.new (b := (nx, lt, pl)) (vs := [.int .i64 nx, .slice A' lt.length c', .slice A'' pl.length c'']) (((OwnC.new w4 [.int .i64 0, .slice none 0 0, .slice none 0 0] 28 _ rfl).keep HR5.out)) (HX2.out.keep HG5.out) (HZ2.out.keep HG5.out) (HB5.out) (by omega) (fun x hx => by have := (HB5.out.t.block x hx).1; omega) (fun x hx => by have := (HB5.out.p.block x hx).1; omega) (grew_trans HG2.out HG5.out) ⟨by omega, by omega, by omega⟩ rfl; generalize (((w5).setCell ⟨w4.heap.size, 0, none⟩ (.int .i64 nx)).setCell ⟨w4.heap.size, 1, none⟩ (.slice A' lt.length c')).setCell ⟨w4.heap.size, 2, none⟩ (.slice A'' pl.length c'') = wE at *; generalize hE : w4.heap.size = E at *)
            | (have HA : Hid (AtE w (w5.alloc (.cells #[.int .i64 nx, .slice A' lt.length c', .slice A'' pl.length c''] 28)) (w5.heap.size) (w.heap.size) (w.heap.size + 1) [.int .i64 nx, .slice A' lt.length c', .slice A'' pl.length c''] [.int .i64 nx, .slice (some ⟨bb, o, none⟩) n1 c1, .slice A2 n2 c2] [.int .i64 0, .slice none 0 0, .slice none 0 0] A' A'' lt.length pl.length c' c'' lt pl) := AtE.lay (b := (nx, lt, pl)) (vs := [.int .i64 nx, .slice A' lt.length c', .slice A'' pl.length c'']) (OwnC.new w5 [.int .i64 nx, .slice A' lt.length c', .slice A'' pl.length c''] _ _ rfl) ((HX2.out.keep HG5.out).keep (grew_alloc _ _ _)) ((HZ2.out.keep HG5.out).keep (grew_alloc _ _ _)) (HB5.out.keep (grew_alloc _ _ _)) (by omega) (fun x hx => by have := (HB5.out.t.block x hx).2; omega) (fun x hx => by have := (HB5.out.p.block x hx).2; omega) (grew_trans HG2.out (grew_trans HG5.out (grew_alloc _ _ _))) ⟨by omega, by omega, by omega⟩; generalize w5.alloc (.cells #[.int .i64 nx, .slice A' lt.length c', .slice A'' pl.length c''] 28) = wE at *; generalize hE : w5.heap.size = E at *)
          clear HS HSO HB5 HO4 HG5 HR5 HG4 HR4 HS4 HS5 HS2a
          obtain ⟨gr, rfl, hgl, hgf, hgc, hoff⟩ := HA.out.offAt rfl (j := i) i1
          have HA1 := Lib.hid hoff
          have e1 : wE.cell? ⟨E, 1, none⟩ = some (.slice (some ⟨gr, 0, none⟩) lt.length c') := HA.out.ce.at 1 _ rfl
          have k3 : (i : Int) < (lt.length : Int) := by omega
          rw [HTT.out] at hgc
          dsimp only at hgc
          clear hoff
          apply_assumption
          go_upto_region 11 with fail
          rw [HTT.out] at HA1
          dsimp only at HA1 HYES
          clear HA e1 hgf hgc hgl
          generalize wE.setCell ⟨gr, i * 7 + 6, none⟩ (.bool true) = wF at *
          have e0 : wF.cell? ⟨E, 0, none⟩ = some (.int .i64 nx) := HA1.out.ce.at 0 _ rfl
          have e1 : wF.cell? ⟨E, 1, none⟩ = some (.slice (some ⟨gr, 0, none⟩) lt.length c') := HA1.out.ce.at 1 _ rfl
          have e2 : wF.cell? ⟨E, 2, none⟩ = some (.slice A'' pl.length c'') := HA1.out.ce.at 2 _ rfl
          have y0 : wF.cell? ⟨w.heap.size + 1, 0, none⟩ = some (.int .i64 0) := HA1.out.cz.at 0 _ rfl
          have f0 : wF.frozen? ⟨w.heap.size + 1, 0, none⟩ = false := HA1.out.cz.fr 0 (by show 0 < 3; omega)
          have y1 : wF.cell? ⟨w.heap.size + 1, 1, none⟩ = some (.slice none 0 0) := HA1.out.cz.at 1 _ rfl
          have f1 : wF.frozen? ⟨w.heap.size + 1, 1, none⟩ = false := HA1.out.cz.fr 1 (by show 1 < 3; omega)
          have y2 : wF.cell? ⟨w.heap.size + 1, 2, none⟩ = some (.slice none 0 0) := HA1.out.cz.at 2 _ rfl
          have f2 : wF.frozen? ⟨w.heap.size + 1, 2, none⟩ = false := HA1.out.cz.fr 2 (by show 2 < 3; omega)
          go_wp2
          have HA2 := Lib.hid (HA1.out.putZ [.int .i64 nx, .slice (some ⟨gr, 0, none⟩) lt.length c', .slice A'' pl.length c''] rfl)
          change bodyPost _ _ _ _ _ (putC wF (w.heap.size + 1) 0 [.int .i64 nx, .slice (some ⟨gr, 0, none⟩) lt.length c', .slice A'' pl.length c''])
          clear y0 y1 y2 f0 f1 f2 e0 e1 e2 HA1
          generalize putC wF (w.heap.size + 1) 0 [.int .i64 nx, .slice (some ⟨gr, 0, none⟩) lt.length c', .slice A'' pl.length c''] = w9 at *
          have z0 : w9.cell? ⟨w.heap.size + 1, 0, none⟩ = _ := HA2.out.cz.at 0 _ rfl
          have z1 : w9.cell? ⟨w.heap.size + 1, 1, none⟩ = _ := HA2.out.cz.at 1 _ rfl
          have z2 : w9.cell? ⟨w.heap.size + 1, 2, none⟩ = _ := HA2.out.cz.at 2 _ rfl
          refine bodyPost_ret (v := .tuple #[.agg #[.int .i64 nx, .slice (some ⟨gr, 0, none⟩) lt.length c', .slice A'' pl.length c''], .int .i64 0]) (by simp [results, Tryz.results27, go_sem, z0, z1, z2]) rfl ?_
          exact HYES.out _ _ _ _ _ (HA2.out.own (by simp) rfl nx) HA2.out.gr
      · have HF := Lib.hid (cancel_no he ha (w := w))
        rw [addE_no ha] at CA
        clear h he hr i2 i3 i4 hix
        generalize BookE (cancelB b no) (cancelE b no) w = PP at *
        generalize hae : addE b (legsT (b.2.1.getD i tr0) true) = ae at *
        have d5 : (ae != 0) = true := by simpa using ha
        clear hae ha
        generalize legsT (b.2.1.getD i tr0) true = lg at *
        generalize b.2.1 = lt at *
        generalize htt : lt.getD i tr0 = tt at *
        have HTT := Lib.hid htt
        clear htt
        obtain ⟨⟨q1, q2, q3, q4, q5, q6⟩, q7⟩ := tt
        dsimp only [vTr] at CL
        dsimp only [vBk] at *
        generalize b.1 = nx at *
        have HX0 : Hid (OwnC ((w.alloc (.cells #[.int .i64 nx, .slice (some ⟨bb, o, none⟩) n1 c1, .slice A2 n2 c2] 28)).alloc (.cells #[.int .i64 0, .slice none 0 0, .slice none 0 0] 28)) w.heap.size [.int .i64 nx, .slice (some ⟨bb, o, none⟩) n1 c1, .slice A2 n2 c2]) := (OwnC.new w [.int .i64 nx, .slice (some ⟨bb, o, none⟩) n1 c1, .slice A2 n2 c2] _ _ rfl).keep (grew_alloc _ _ _)
        have HZ0 : Hid (OwnC ((w.alloc (.cells #[.int .i64 nx, .slice (some ⟨bb, o, none⟩) n1 c1, .slice A2 n2 c2] 28)).alloc (.cells #[.int .i64 0, .slice none 0 0, .slice none 0 0] 28)) (w.heap.size + 1) [.int .i64 0, .slice none 0 0, .slice none 0 0]) := OwnC.new _ [.int .i64 0, .slice none 0 0, .slice none 0 0] _ _ (by simp)
        have HG0 : Hid (Grew w ((w.alloc (.cells #[.int .i64 nx, .slice (some ⟨bb, o, none⟩) n1 c1, .slice A2 n2 c2] 28)).alloc (.cells #[.int .i64 0, .slice none 0 0, .slice none 0 0] 28))) := grew_trans (grew_alloc _ _ _) (grew_alloc _ _ _)
        go_enter Tryz.func27, Tryz.ntmps27
        go_upto_region 1 with fail
        generalize (w.alloc (.cells #[.int .i64 nx, .slice (some ⟨bb, o, none⟩) n1 c1, .slice A2 n2 c2] 28)).alloc (.cells #[.int .i64 0, .slice none 0 0, .slice none 0 0] 28) = w0 at *
        have x0 : w0.cell? ⟨w.heap.size, 0, none⟩ = some (.int .i64 nx) := HX0.out.at 0 _ rfl
        have x1 : w0.cell? ⟨w.heap.size, 1, none⟩ = some (.slice (some ⟨bb, o, none⟩) n1 c1) := HX0.out.at 1 _ rfl
        have x2 : w0.cell? ⟨w.heap.size, 2, none⟩ = some (.slice A2 n2 c2) := HX0.out.at 2 _ rfl
        go_upto_region 7 with (first
          | (go_at_call 12; ((with_reducible refine (CC _ HG0.out).mono ?_); rintro e w1 ⟨rfl, hg⟩; have HG1 := Lib.hid (grew_trans HG0.out hg); have HX1 := Lib.hid (HX0.out.keep hg); have HZ1 := Lib.hid (HZ0.out.keep hg); clear x0 x1 x2; have x0 : w1.cell? ⟨w.heap.size, 0, none⟩ = some (.int .i64 nx) := HX1.out.at 0 _ rfl; have x1 : w1.cell? ⟨w.heap.size, 1, none⟩ = some (.slice (some ⟨bb, o, none⟩) n1 c1) := HX1.out.at 1 _ rfl; have x2 : w1.cell? ⟨w.heap.size, 2, none⟩ = some (.slice A2 n2 c2) := HX1.out.at 2 _ rfl; clear hg CC))
          | (go_at_call 51; ((with_reducible refine (CS _ HG1.out).mono ?_); rintro e w2 ⟨rfl, hg⟩; have HG2 := Lib.hid (grew_trans HG1.out hg); have HX2 := Lib.hid (HX1.out.keep hg); have HZ2 := Lib.hid (HZ1.out.keep hg); clear x0 x1 x2; clear hg CS)))
        have HSO : Hid (∀ w', OwnC w' (w.heap.size) [.int .i64 nx, .slice (some ⟨bb, o, none⟩) n1 c1, .slice A2 n2 c2] → CTr w' bb (o + i * 7) ((q1, q2, q3, q4, q5, q6), q7) → (w'.cell? ⟨w.heap.size, 0, none⟩ = some (.int .i64 nx) ∧ w'.cell? ⟨w.heap.size, 1, none⟩ = some (.slice (some ⟨bb, o, none⟩) n1 c1) ∧ w'.cell? ⟨w.heap.size, 2, none⟩ = some (.slice A2 n2 c2) ∧ w'.cell? ⟨bb, o + i * 7, none⟩ = some (.int .i64 q1) ∧ w'.cell? ⟨bb, o + i * 7 + 1, none⟩ = some (.int .i64 q2) ∧ w'.cell? ⟨bb, o + i * 7 + 2, none⟩ = some (.int .i64 q3) ∧ w'.cell? ⟨bb, o + i * 7 + 3, none⟩ = some (.int .i64 q4) ∧ w'.cell? ⟨bb, o + i * 7 + 4, none⟩ = some (.int .i64 q5) ∧ w'.cell? ⟨bb, o + i * 7 + 5, none⟩ = some (.int .i64 q6) ∧ w'.cell? ⟨bb, o + i * 7 + 6, none⟩ = some (.bool q7))) := fun w' hx ht => ⟨hx.at 0 _ rfl, hx.at 1 _ rfl, hx.at 2 _ rfl, ht.1, ht.2.1, ht.2.2.1, ht.2.2.2.1, ht.2.2.2.2.1, ht.2.2.2.2.2.1, ht.2.2.2.2.2.2⟩
        have HS : Hid (∀ w', Grew w2 w' → (w'.cell? ⟨w.heap.size, 0, none⟩ = some (.int .i64 nx) ∧ w'.cell? ⟨w.heap.size, 1, none⟩ = some (.slice (some ⟨bb, o, none⟩) n1 c1) ∧ w'.cell? ⟨w.heap.size, 2, none⟩ = some (.slice A2 n2 c2) ∧ w'.cell? ⟨bb, o + i * 7, none⟩ = some (.int .i64 q1) ∧ w'.cell? ⟨bb, o + i * 7 + 1, none⟩ = some (.int .i64 q2) ∧ w'.cell? ⟨bb, o + i * 7 + 2, none⟩ = some (.int .i64 q3) ∧ w'.cell? ⟨bb, o + i * 7 + 3, none⟩ = some (.int .i64 q4) ∧ w'.cell? ⟨bb, o + i * 7 + 4, none⟩ = some (.int .i64 q5) ∧ w'.cell? ⟨bb, o + i * 7 + 5, none⟩ = some (.int .i64 q6) ∧ w'.cell? ⟨bb, o + i * 7 + 6, none⟩ = some (.bool q7))) := fun w' g => HSO.out _ (HX2.out.keep g) (HTC.out _ (grew_trans HG2.out g))
        have hs2 : w.heap.size + 2 ≤ w2.heap.size := by have := HZ2.out.lt; omega
        have HS2a := HS.out _ (grew_drew (grew_alloc w2 #[.int .i64 0, .slice none 0 0, .slice none 0 0] 28))
        refine wp_region_noPanic ?_
        refine wp_region_held_drew (S := fun w' => w'.cell? ⟨w.heap.size, 0, none⟩ = some (.int .i64 nx) ∧ w'.cell? ⟨w.heap.size, 1, none⟩ = some (.slice (some ⟨bb, o, none⟩) n1 c1) ∧ w'.cell? ⟨w.heap.size, 2, none⟩ = some (.slice A2 n2 c2) ∧ w'.cell? ⟨bb, o + i * 7, none⟩ = some (.int .i64 q1) ∧ w'.cell? ⟨bb, o + i * 7 + 1, none⟩ = some (.int .i64 q2) ∧ w'.cell? ⟨bb, o + i * 7 + 2, none⟩ = some (.int .i64 q3) ∧ w'.cell? ⟨bb, o + i * 7 + 3, none⟩ = some (.int .i64 q4) ∧ w'.cell? ⟨bb, o + i * 7 + 4, none⟩ = some (.int .i64 q5) ∧ w'.cell? ⟨bb, o + i * 7 + 5, none⟩ = some (.int .i64 q6) ∧ w'.cell? ⟨bb, o + i * 7 + 6, none⟩ = some (.bool q7)) (by kernel_rfl) (HS.out _ (grew_drew (grew_refl _))) (fun hHeld => ?_)
        (refine wpAnyH_take (i := 0) (oi := { dst := some 23, op := Op.load 28 (Operand.tmp 2), type := 28, pos := "book.go:87", after := #[], guard := none }) (v := ?_) rfl (by kernel_rfl) (by kernel_rfl) (by kernel_rfl) (fun _ _ _ h => h) (Or.inl ⟨by rfl, ?_⟩) (by assumption) ?_; rotate_left; · (intro w hSw; (try dsimp only at hSw); go_simp; (first | done | with_reducible rfl)))
        try simp only [Act.put, List.setIfInBounds_toArray, List.set_cons_zero, List.set_cons_succ]
        (refine wpAnyH_take (i := 1) (oi := { dst := some 24, op := Op.fieldAddr 28 (Operand.tmp 2) 1, type := 0, pos := "book.go:87", after := #[], guard := none }) (v := ?_) rfl (by kernel_rfl) (by kernel_rfl) (by kernel_rfl) (fun _ _ _ h => h) (Or.inl ⟨by rfl, ?_⟩) (by assumption) ?_; rotate_left; · (intro w hSw; (try dsimp only at hSw); go_simp; (first | done | with_reducible rfl)))
        try simp only [Act.put, List.setIfInBounds_toArray, List.set_cons_zero, List.set_cons_succ]
        (refine wpAnyH_take (i := 2) (oi := { dst := some 25, op := Op.load 25 (Operand.tmp 24), type := 25, pos := "book.go:87", after := #[{ on := 1, ground := Ground.data }], guard := none }) (v := ?_) rfl (by kernel_rfl) (by kernel_rfl) (by kernel_rfl) (fun _ _ _ h => h) (Or.inl ⟨by rfl, ?_⟩) (by assumption) ?_; rotate_left; · (intro w hSw; (try dsimp only at hSw); go_simp; (first | done | with_reducible rfl)))
        try simp only [Act.put, List.setIfInBounds_toArray, List.set_cons_zero, List.set_cons_succ]
        (refine wpAnyH_take (i := 3) (oi := { dst := some 26, op := Op.move (Operand.tmp 7), type := 3, pos := "book.go:87", after := #[], guard := none }) (v := ?_) rfl (by kernel_rfl) (by kernel_rfl) (by kernel_rfl) (fun _ _ _ h => h) (Or.inl ⟨by rfl, ?_⟩) (by assumption) ?_; rotate_left; · (intro w hSw; (try dsimp only at hSw); go_simp; (first | done | with_reducible rfl)))
        try simp only [Act.put, List.setIfInBounds_toArray, List.set_cons_zero, List.set_cons_succ]
        (refine wpAnyH_take (i := 4) (oi := { dst := some 27, op := Op.indexAddr 25 (Operand.tmp 25) (Operand.tmp 26), type := 0, pos := "book.go:87", after := #[{ on := 2, ground := Ground.data }, { on := 3, ground := Ground.data }], guard := none }) (v := ?_) rfl (by kernel_rfl) (by kernel_rfl) (by kernel_rfl) (fun _ _ _ h => h) (Or.inl ⟨by rfl, ?_⟩) (by assumption) ?_; rotate_left; · (intro w hSw; (try dsimp only at hSw); go_simp; (first | done | with_reducible rfl)))
        try simp only [Act.put, List.setIfInBounds_toArray, List.set_cons_zero, List.set_cons_succ]
        (refine wpAnyH_take (i := 5) (oi := { dst := some 28, op := Op.load 50 (Operand.tmp 27), type := 50, pos := "book.go:87", after := #[{ on := 4, ground := Ground.data }], guard := none }) (v := ?_) rfl (by kernel_rfl) (by kernel_rfl) (by kernel_rfl) (fun _ _ _ h => h) (Or.inl ⟨by rfl, ?_⟩) (by assumption) ?_; rotate_left; · (intro w hSw; (try dsimp only at hSw); go_simp; (first | done | with_reducible rfl)))
        try simp only [Act.put, List.setIfInBounds_toArray, List.set_cons_zero, List.set_cons_succ]
        refine wpAnyH_ready (rs := [6, 11]) (by kernel_rfl) (by simp) ?_
        refine (AllReadyH.cons (o := { dst := some 29, op := Op.call { callee := Callee.value (Operand.func 53), args := #[Operand.tmp 28], argTypes := #[50] }, type := 26, pos := "book.go:87", after := #[{ on := 5, ground := Ground.data }], guard := none }) rfl (fun K hK => ?_) (AllReadyH.cons (o := { dst := some 8, op := Op.alloc 28, type := 0, pos := "book.go:87", after := #[], guard := none }) rfl (fun K hK => ?_) AllReadyH.nil))
        · go_simp
          (go_at_call 53; (with_reducible refine (CL _).mono ?_); rintro e w4 ⟨A3, c3, rfl, ho, hg⟩; have HR4 := Lib.hid hg; have HG4 : Hid (Grew w2 w4) := grew_trans (by repeat (first | exact grew_refl _ | refine grew_drew ?_ | refine grew_trans ?_ (grew_alloc _ _ _))) hg; have HS4 := HS.out _ HG4.out; have HS4a := HS.out _ (grew_trans HG4.out (grew_alloc w4 #[.int .i64 0, .slice none 0 0, .slice none 0 0] 28)); have hs4 : w2.heap.size ≤ w4.heap.size := HG4.out.size; have HO4 := Lib.hid (ho.mono (Nat.zero_le _)); clear ho hg)
          refine hK.out _ _ ?_ (fun hHeld => ?_)
          · first
            | exact HS4
          clear hK K
          try simp only [Act.put, List.setIfInBounds_toArray, List.set_cons_zero, List.set_cons_succ]
          refine wpAnyH_ready (rs := [7, 11]) (by kernel_rfl) (by simp) ?_
          refine (AllReadyH.cons (o := { dst := some 30, op := Op.call { callee := Callee.value (Operand.func 52), args := #[Operand.tmp 23, Operand.tmp 29], argTypes := #[28, 26] }, type := 43, pos := "book.go:87", after := #[{ on := 0, ground := Ground.data }, { on := 6, ground := Ground.data }, { on := 6, ground := Ground.chain }], guard := none }) rfl (fun K hK => ?_) (AllReadyH.cons (o := { dst := some 8, op := Op.alloc 28, type := 0, pos := "book.go:87", after := #[], guard := none }) rfl (fun K hK => ?_) AllReadyH.nil))
          · go_simp
            (go_at_call 52; (with_reducible refine (CA _ _ _ (grew_trans HG2.out (grew_trans HG4.out (by repeat (first | exact grew_refl _ | refine grew_drew ?_ | refine grew_trans ?_ (grew_alloc _ _ _))))) (HO4.out.keep (by repeat (first | exact grew_refl _ | refine grew_drew ?_ | refine grew_trans ?_ (grew_alloc _ _ _))))).mono ?_); rintro e w5 ⟨A', A'', c', c'', rfl, hb, hg⟩; have HB5 := Lib.hid hb; have HR5 := Lib.hid hg; have HG5 : Hid (Grew w2 w5) := grew_trans HG4.out (grew_trans (by repeat (first | exact grew_refl _ | refine grew_drew ?_ | refine grew_trans ?_ (grew_alloc _ _ _))) hg); have HS5 := HS.out _ HG5.out; have HS5a := HS.out _ (grew_trans HG5.out (grew_alloc w5 #[.int .i64 0, .slice none 0 0, .slice none 0 0] 28)); have hs5 : w4.heap.size ≤ w5.heap.size := (grew_trans (c := w5) (by repeat (first | exact grew_refl _ | refine grew_drew ?_ | refine grew_trans ?_ (grew_alloc _ _ _))) hg : Grew w4 w5).size; clear hb hg)
            refine hK.out _ _ ?_ (fun hHeld => ?_)
            · first
              | exact HS5
            clear hK K
            try simp only [Act.put, List.setIfInBounds_toArray, List.set_cons_zero, List.set_cons_succ]
            (refine wpAnyH_take (i := 8) (oi := { dst := some 22, op := Op.move (Operand.tmp 30), type := 43, pos := "book.go:87", after := #[{ on := 7, ground := Ground.data }], guard := none }) (v := ?_) rfl (by kernel_rfl) (by kernel_rfl) (by kernel_rfl) (fun _ _ _ h => h) (Or.inl ⟨by rfl, ?_⟩) (by assumption) ?_; rotate_left; · (intro w hSw; (try dsimp only at hSw); go_simp; (first | done | with_reducible rfl)))
            try simp only [Act.put, List.setIfInBounds_toArray, List.set_cons_zero, List.set_cons_succ]
            (refine wpAnyH_take (i := 9) (oi := { dst := some 31, op := Op.extract (Operand.tmp 22) 0, type := 28, pos := "book.go:87", after := #[{ on := 8, ground := Ground.data }], guard := none }) (v := ?_) rfl (by kernel_rfl) (by kernel_rfl) (by kernel_rfl) (fun _ _ _ h => h) (Or.inl ⟨by rfl, ?_⟩) (by assumption) ?_; rotate_left; · (intro w hSw; (try dsimp only at hSw); go_simp; (first | done | with_reducible rfl)))
            try simp only [Act.put, List.setIfInBounds_toArray, List.set_cons_zero, List.set_cons_succ]
            (refine wpAnyH_take (i := 10) (oi := { dst := some 32, op := Op.extract (Operand.tmp 22) 1, type := 34, pos := "book.go:87", after := #[{ on := 8, ground := Ground.data }, { on := 12, ground := Ground.gcOnly Departure.lateStores }], guard := none }) (v := ?_) rfl (by kernel_rfl) (by kernel_rfl) (by kernel_rfl) (fun _ _ _ h => h) (Or.inl ⟨by rfl, ?_⟩) (by assumption) ?_; rotate_left; · (intro w hSw; (try dsimp only at hSw); go_simp; (first | done | with_reducible rfl)))
            try simp only [Act.put, List.setIfInBounds_toArray, List.set_cons_zero, List.set_cons_succ]
            refine wpAnyH_ready (rs := [11]) (by kernel_rfl) (by simp) ?_
            refine (AllReadyH.cons (o := { dst := some 8, op := Op.alloc 28, type := 0, pos := "book.go:87", after := #[], guard := none }) rfl (fun K hK => ?_) AllReadyH.nil)
            go_simp
            refine hK.out _ _ ?_ (fun hHeld => ?_)
            · first
              | exact HS2a
              | exact HS4a
              | exact HS5a
            clear hK K
            try simp only [Act.put, List.setIfInBounds_toArray, List.set_cons_zero, List.set_cons_succ]
            refine wpAnyH_ready (rs := [12]) (by kernel_rfl) (by simp) ?_
            refine (AllReadyH.cons (o := { dst := none, op := Op.store 28 (Operand.tmp 8) (Operand.tmp 31), type := 0, pos := "book.go:87", after := #[{ on := 11, ground := Ground.data }, { on := 9, ground := Ground.data }, { on := 7, ground := Ground.chain }, { on := 0, ground := Ground.phase }, { on := 1, ground := Ground.phase }, { on := 2, ground := Ground.phase }, { on := 3, ground := Ground.phase }, { on := 4, ground := Ground.phase }, { on := 5, ground := Ground.phase }, { on := 6, ground := Ground.phase }, { on := 7, ground := Ground.phase }, { on := 8, ground := Ground.phase }, { on := 9, ground := Ground.phase }, { on := 10, ground := Ground.textOnly Departure.lateStores }, { on := 11, ground := Ground.phase }], guard := none }) rfl (fun K hK => ?_) AllReadyH.nil)
            first
              | (have HEB := (OwnC.new w2 [.int .i64 0, .slice none 0 0, .slice none 0 0] 28 _ rfl).keep (grew_trans (grew_drew (grew_refl _)) (grew_trans HR4.out HR5.out)); have e0 : w5.cell? ⟨w2.heap.size, 0, none⟩ = some (.int .i64 0) := HEB.at 0 _ rfl; have g0 : w5.frozen? ⟨w2.heap.size, 0, none⟩ = false := HEB.fr 0 (by show 0 < 3; omega); have e1 : w5.cell? ⟨w2.heap.size, 1, none⟩ = some (.slice none 0 0) := HEB.at 1 _ rfl; have g1 : w5.frozen? ⟨w2.heap.size, 1, none⟩ = false := HEB.fr 1 (by show 1 < 3; omega); have e2 : w5.cell? ⟨w2.heap.size, 2, none⟩ = some (.slice none 0 0) := HEB.at 2 _ rfl; have g2 : w5.frozen? ⟨w2.heap.size, 2, none⟩ = false := HEB.fr 2 (by show 2 < 3; omega); clear HEB)
              | (have HEB := (OwnC.new w4 [.int .i64 0, .slice none 0 0, .slice none 0 0] 28 _ rfl).keep HR5.out; have e0 : w5.cell? ⟨w4.heap.size, 0, none⟩ = some (.int .i64 0) := HEB.at 0 _ rfl; have g0 : w5.frozen? ⟨w4.heap.size, 0, none⟩ = false := HEB.fr 0 (by show 0 < 3; omega); have e1 : w5.cell? ⟨w4.heap.size, 1, none⟩ = some (.slice none 0 0) := HEB.at 1 _ rfl; have g1 : w5.frozen? ⟨w4.heap.size, 1, none⟩ = false := HEB.fr 1 (by show 1 < 3; omega); have e2 : w5.cell? ⟨w4.heap.size, 2, none⟩ = some (.slice none 0 0) := HEB.at 2 _ rfl; have g2 : w5.frozen? ⟨w4.heap.size, 2, none⟩ = false := HEB.fr 2 (by show 2 < 3; omega); clear HEB)
              | skip
            go_simp
            refine hK.out _ _ ?_ (fun hHeld => ?_)
            · first
              | exact HS.out _ (grew_trans HG5.out (grew_alloc _ _ _))
              | exact HSO.out _ (OwnC.putO (b2 := w2.heap.size) (by omega) [.int .i64 0, .slice A' 0 c', .slice A'' 0 c''] 0 _ (HX2.out.keep HG5.out)) (HTC.out _ (grew_put (w := w) (w2.heap.size) (by omega) [.int .i64 0, .slice A' 0 c', .slice A'' 0 c''] 0 _ (grew_trans HG2.out HG5.out)))
              | exact HSO.out _ (OwnC.putO (b2 := w4.heap.size) (by omega) [.int .i64 0, .slice A' 0 c', .slice A'' 0 c''] 0 _ (HX2.out.keep HG5.out)) (HTC.out _ (grew_put (w := w) (w4.heap.size) (by omega) [.int .i64 0, .slice A' 0 c', .slice A'' 0 c''] 0 _ (grew_trans HG2.out HG5.out)))
            clear hK K
            try simp only [Act.put, List.setIfInBounds_toArray, List.set_cons_zero, List.set_cons_succ]
            (refine wpAnyH_take (i := 13) (oi := { dst := some 9, op := Op.assign (Operand.tmp 32), type := 34, pos := "book.go:87", after := #[{ on := 10, ground := Ground.data }, { on := 12, ground := Ground.chain }, { on := 0, ground := Ground.phase }, { on := 1, ground := Ground.phase }, { on := 2, ground := Ground.phase }, { on := 3, ground := Ground.phase }, { on := 4, ground := Ground.phase }, { on := 5, ground := Ground.phase }, { on := 6, ground := Ground.phase }, { on := 7, ground := Ground.phase }, { on := 8, ground := Ground.phase }, { on := 9, ground := Ground.phase }, { on := 10, ground := Ground.phase }, { on := 11, ground := Ground.phase }, { on := 12, ground := Ground.phase }], guard := none }) (v := ?_) rfl (by kernel_rfl) (by kernel_rfl) (by kernel_rfl) (fun _ _ _ h => h) (Or.inl ⟨by rfl, ?_⟩) (by assumption) ?_; rotate_left; · (intro w hSw; (try dsimp only at hSw); go_simp; (first | done | with_reducible rfl)))
            try simp only [Act.put, List.setIfInBounds_toArray, List.set_cons_zero, List.set_cons_succ]
            refine wpAnyH_done (by kernel_rfl) ?_ _
            clear hHeld
            first
              | (have hsb : w2.heap.size + 1 ≤ w4.heap.size := (by have h9 := (HR4.out : Below _ _ _).size; simp at h9; omega); have HA : Hid (AtE w ((((w5).setCell ⟨w2.heap.size, 0, none⟩ (.int .i64 0)).setCell ⟨w2.heap.size, 1, none⟩ (.slice A' 0 c')).setCell ⟨w2.heap.size, 2, none⟩ (.slice A'' 0 c'')) (w2.heap.size) (w.heap.size) (w.heap.size + 1) [.int .i64 0, .slice A' 0 c', .slice A'' 0 c''] [.int .i64 nx, .slice (some ⟨bb, o, none⟩) n1 c1, .slice A2 n2 c2] [.int .i64 0, .slice none 0 0, .slice none 0 0] A' A'' 0 0 c' c'' [] []) := AtE.new (b := bk0) (vs := [.int .i64 0, .slice A' 0 c', .slice A'' 0 c'']) (((OwnC.new w2 [.int .i64 0, .slice none 0 0, .slice none 0 0] 28 _ rfl).keep (grew_trans (grew_drew (grew_refl _)) (grew_trans HR4.out HR5.out)))) (HX2.out.keep HG5.out) (HZ2.out.keep HG5.out) (HB5.out) (by omega) (fun x hx => by have := (HB5.out.t.block x hx).1; omega) (fun x hx => by have := (HB5.out.p.block x hx).1; omega) (grew_trans HG2.out HG5.out) ⟨by omega, by omega, by omega⟩ rfl; generalize (((w5).setCell ⟨w2.heap.size, 0, none⟩ (.int .i64 0)).setCell ⟨w2.heap.size, 1, none⟩ (.slice A' 0 c')).setCell ⟨w2.heap.size, 2, none⟩ (.slice A'' 0 c'') = wE at *; generalize hE : w2.heap.size = E at *)
              | (have hsc : w4.heap.size + 1 ≤ (w4.alloc (.cells #[.int .i64 0, .slice none 0 0, .slice none 0 0] 28)).heap.size := (by simp); have HA : Hid (AtE w ((((w5).setCell ⟨w4.heap.size, 0, none⟩ (.int .i64 0)).setCell ⟨w4.heap.size, 1, none⟩ (.slice A' 0 c')).setCell ⟨w4.heap.size, 2, none⟩ (.slice A'' 0 c'')) (w4.heap.size) (w.heap.size) (w.heap.size + 1) [.int .i64 0, .slice A' 0 c', .slice A'' 0 c''] [.int .i64 nx, .slice (some ⟨bb, o, none⟩) n1 c1, .slice A2 n2 c2] [.int .i64 0, .slice none 0 0, .slice none 0 0] A' A'' 0 0 c' c'' [] []) := AtE.new (b := bk0) (vs := [.int .i64 0, .slice A' 0 c', .slice A'' 0 c'']) (((OwnC.new w4 [.int .i64 0, .slice none 0 0, .slice none 0 0] 28 _ rfl).keep HR5.out)) (HX2.out.keep HG5.out) (HZ2.out.keep HG5.out) (HB5.out) (by omega) (fun x hx => by have := (HB5.out.t.block x hx).1; omega) (fun x hx => by have := (HB5.out.p.block x hx).1; omega) (grew_trans HG2.out HG5.out) ⟨by omega, by omega, by omega⟩ rfl; generalize (((w5).setCell ⟨w4.heap.size, 0, none⟩ (.int .i64 0)).setCell ⟨w4.heap.size, 1, none⟩ (.slice A' 0 c')).setCell ⟨w4.heap.size, 2, none⟩ (.slice A'' 0 c'') = wE at *; generalize hE : w4.heap.size = E at *)
              | (have HA : Hid (AtE w (w5.alloc (.cells #[.int .i64 0, .slice A' 0 c', .slice A'' 0 c''] 28)) (w5.heap.size) (w.heap.size) (w.heap.size + 1) [.int .i64 0, .slice A' 0 c', .slice A'' 0 c''] [.int .i64 nx, .slice (some ⟨bb, o, none⟩) n1 c1, .slice A2 n2 c2] [.int .i64 0, .slice none 0 0, .slice none 0 0] A' A'' 0 0 c' c'' [] []) := AtE.lay (b := bk0) (vs := [.int .i64 0, .slice A' 0 c', .slice A'' 0 c'']) (OwnC.new w5 [.int .i64 0, .slice A' 0 c', .slice A'' 0 c''] _ _ rfl) ((HX2.out.keep HG5.out).keep (grew_alloc _ _ _)) ((HZ2.out.keep HG5.out).keep (grew_alloc _ _ _)) (HB5.out.keep (grew_alloc _ _ _)) (by omega) (fun x hx => by have := (HB5.out.t.block x hx).2; omega) (fun x hx => by have := (HB5.out.p.block x hx).2; omega) (grew_trans HG2.out (grew_trans HG5.out (grew_alloc _ _ _))) ⟨by omega, by omega, by omega⟩; generalize w5.alloc (.cells #[.int .i64 0, .slice A' 0 c', .slice A'' 0 c''] 28) = wE at *; generalize hE : w5.heap.size = E at *)
            clear HS HSO HB5 HO4 HG5 HR5 HG4 HR4 HS4 HS5 HS2a
            have y0 : wE.cell? ⟨w.heap.size + 1, 0, none⟩ = some (.int .i64 0) := HA.out.cz.at 0 _ rfl
            have y1 : wE.cell? ⟨w.heap.size + 1, 1, none⟩ = some (.slice none 0 0) := HA.out.cz.at 1 _ rfl
            have y2 : wE.cell? ⟨w.heap.size + 1, 2, none⟩ = some (.slice none 0 0) := HA.out.cz.at 2 _ rfl
            have f0 : wE.frozen? ⟨w.heap.size + 1, 0, none⟩ = false := HA.out.cz.fr 0 (by show 0 < 3; omega)
            have f1 : wE.frozen? ⟨w.heap.size + 1, 1, none⟩ = false := HA.out.cz.fr 1 (by show 1 < 3; omega)
            have f2 : wE.frozen? ⟨w.heap.size + 1, 2, none⟩ = false := HA.out.cz.fr 2 (by show 2 < 3; omega)
            apply_assumption
            go_wp2
            have HAZ := HA.out.putZ [.int .i64 0, .slice none 0 0, .slice none 0 0] rfl
            have HP := HAZ.cz
            have HGP := HAZ.gr
            change bodyPost _ _ _ _ _ (putC wE (w.heap.size + 1) 0 [.int .i64 0, .slice none 0 0, .slice none 0 0])
            clear y0 y1 y2 f0 f1 f2 HAZ
            generalize putC wE (w.heap.size + 1) 0 [.int .i64 0, .slice none 0 0, .slice none 0 0] = w9 at *
            have z0 : w9.cell? ⟨w.heap.size + 1, 0, none⟩ = _ := HP.at 0 _ rfl
            have z1 : w9.cell? ⟨w.heap.size + 1, 1, none⟩ = _ := HP.at 1 _ rfl
            have z2 : w9.cell? ⟨w.heap.size + 1, 2, none⟩ = _ := HP.at 2 _ rfl
            refine bodyPost_ret (v := .tuple #[.agg #[.int .i64 0, .slice none 0 0, .slice none 0 0], .int .i64 ae]) (by simp [results, Tryz.results27, go_sem, z0, z1, z2]) rfl ?_
            exact HF.out _ HGP
          · go_simp
            refine hK.out _ _ ?_ (fun hHeld => ?_)
            · first
              | exact HS2a
              | exact HS4a
              | exact HS5a
            clear hK K
            try simp only [Act.put, List.setIfInBounds_toArray, List.set_cons_zero, List.set_cons_succ]
            refine wpAnyH_ready (rs := [7]) (by kernel_rfl) (by simp) ?_
            refine (AllReadyH.cons (o := { dst := some 30, op := Op.call { callee := Callee.value (Operand.func 52), args := #[Operand.tmp 23, Operand.tmp 29], argTypes := #[28, 26] }, type := 43, pos := "book.go:87", after := #[{ on := 0, ground := Ground.data }, { on := 6, ground := Ground.data }, { on := 6, ground := Ground.chain }], guard := none }) rfl (fun K hK => ?_) AllReadyH.nil)
            go_simp
            (go_at_call 52; (with_reducible refine (CA _ _ _ (grew_trans HG2.out (grew_trans HG4.out (by repeat (first | exact grew_refl _ | refine grew_drew ?_ | refine grew_trans ?_ (grew_alloc _ _ _))))) (HO4.out.keep (by repeat (first | exact grew_refl _ | refine grew_drew ?_ | refine grew_trans ?_ (grew_alloc _ _ _))))).mono ?_); rintro e w5 ⟨A', A'', c', c'', rfl, hb, hg⟩; have HB5 := Lib.hid hb; have HR5 := Lib.hid hg; have HG5 : Hid (Grew w2 w5) := grew_trans HG4.out (grew_trans (by repeat (first | exact grew_refl _ | refine grew_drew ?_ | refine grew_trans ?_ (grew_alloc _ _ _))) hg); have HS5 := HS.out _ HG5.out; have HS5a := HS.out _ (grew_trans HG5.out (grew_alloc w5 #[.int .i64 0, .slice none 0 0, .slice none 0 0] 28)); have hs5 : w4.heap.size ≤ w5.heap.size := (grew_trans (c := w5) (by repeat (first | exact grew_refl _ | refine grew_drew ?_ | refine grew_trans ?_ (grew_alloc _ _ _))) hg : Grew w4 w5).size; clear hb hg)
            refine hK.out _ _ ?_ (fun hHeld => ?_)
            · first
              | exact HS5
            clear hK K
            try simp only [Act.put, List.setIfInBounds_toArray, List.set_cons_zero, List.set_cons_succ]
            (refine wpAnyH_take (i := 8) (oi := { dst := some 22, op := Op.move (Operand.tmp 30), type := 43, pos := "book.go:87", after := #[{ on := 7, ground := Ground.data }], guard := none }) (v := ?_) rfl (by kernel_rfl) (by kernel_rfl) (by kernel_rfl) (fun _ _ _ h => h) (Or.inl ⟨by rfl, ?_⟩) (by assumption) ?_; rotate_left; · (intro w hSw; (try dsimp only at hSw); go_simp; (first | done | with_reducible rfl)))
            try simp only [Act.put, List.setIfInBounds_toArray, List.set_cons_zero, List.set_cons_succ]
            (refine wpAnyH_take (i := 9) (oi := { dst := some 31, op := Op.extract (Operand.tmp 22) 0, type := 28, pos := "book.go:87", after := #[{ on := 8, ground := Ground.data }], guard := none }) (v := ?_) rfl (by kernel_rfl) (by kernel_rfl) (by kernel_rfl) (fun _ _ _ h => h) (Or.inl ⟨by rfl, ?_⟩) (by assumption) ?_; rotate_left; · (intro w hSw; (try dsimp only at hSw); go_simp; (first | done | with_reducible rfl)))
            try simp only [Act.put, List.setIfInBounds_toArray, List.set_cons_zero, List.set_cons_succ]
            (refine wpAnyH_take (i := 10) (oi := { dst := some 32, op := Op.extract (Operand.tmp 22) 1, type := 34, pos := "book.go:87", after := #[{ on := 8, ground := Ground.data }, { on := 12, ground := Ground.gcOnly Departure.lateStores }], guard := none }) (v := ?_) rfl (by kernel_rfl) (by kernel_rfl) (by kernel_rfl) (fun _ _ _ h => h) (Or.inl ⟨by rfl, ?_⟩) (by assumption) ?_; rotate_left; · (intro w hSw; (try dsimp only at hSw); go_simp; (first | done | with_reducible rfl)))
            try simp only [Act.put, List.setIfInBounds_toArray, List.set_cons_zero, List.set_cons_succ]
            refine wpAnyH_ready (rs := [12]) (by kernel_rfl) (by simp) ?_
            refine (AllReadyH.cons (o := { dst := none, op := Op.store 28 (Operand.tmp 8) (Operand.tmp 31), type := 0, pos := "book.go:87", after := #[{ on := 11, ground := Ground.data }, { on := 9, ground := Ground.data }, { on := 7, ground := Ground.chain }, { on := 0, ground := Ground.phase }, { on := 1, ground := Ground.phase }, { on := 2, ground := Ground.phase }, { on := 3, ground := Ground.phase }, { on := 4, ground := Ground.phase }, { on := 5, ground := Ground.phase }, { on := 6, ground := Ground.phase }, { on := 7, ground := Ground.phase }, { on := 8, ground := Ground.phase }, { on := 9, ground := Ground.phase }, { on := 10, ground := Ground.textOnly Departure.lateStores }, { on := 11, ground := Ground.phase }], guard := none }) rfl (fun K hK => ?_) AllReadyH.nil)
            first
              | (have HEB := (OwnC.new w2 [.int .i64 0, .slice none 0 0, .slice none 0 0] 28 _ rfl).keep (grew_trans (grew_drew (grew_refl _)) (grew_trans HR4.out HR5.out)); have e0 : w5.cell? ⟨w2.heap.size, 0, none⟩ = some (.int .i64 0) := HEB.at 0 _ rfl; have g0 : w5.frozen? ⟨w2.heap.size, 0, none⟩ = false := HEB.fr 0 (by show 0 < 3; omega); have e1 : w5.cell? ⟨w2.heap.size, 1, none⟩ = some (.slice none 0 0) := HEB.at 1 _ rfl; have g1 : w5.frozen? ⟨w2.heap.size, 1, none⟩ = false := HEB.fr 1 (by show 1 < 3; omega); have e2 : w5.cell? ⟨w2.heap.size, 2, none⟩ = some (.slice none 0 0) := HEB.at 2 _ rfl; have g2 : w5.frozen? ⟨w2.heap.size, 2, none⟩ = false := HEB.fr 2 (by show 2 < 3; omega); clear HEB)
              | (have HEB := (OwnC.new w4 [.int .i64 0, .slice none 0 0, .slice none 0 0] 28 _ rfl).keep HR5.out; have e0 : w5.cell? ⟨w4.heap.size, 0, none⟩ = some (.int .i64 0) := HEB.at 0 _ rfl; have g0 : w5.frozen? ⟨w4.heap.size, 0, none⟩ = false := HEB.fr 0 (by show 0 < 3; omega); have e1 : w5.cell? ⟨w4.heap.size, 1, none⟩ = some (.slice none 0 0) := HEB.at 1 _ rfl; have g1 : w5.frozen? ⟨w4.heap.size, 1, none⟩ = false := HEB.fr 1 (by show 1 < 3; omega); have e2 : w5.cell? ⟨w4.heap.size, 2, none⟩ = some (.slice none 0 0) := HEB.at 2 _ rfl; have g2 : w5.frozen? ⟨w4.heap.size, 2, none⟩ = false := HEB.fr 2 (by show 2 < 3; omega); clear HEB)
              | skip
            go_simp
            refine hK.out _ _ ?_ (fun hHeld => ?_)
            · first
              | exact HS.out _ (grew_trans HG5.out (grew_alloc _ _ _))
              | exact HSO.out _ (OwnC.putO (b2 := w2.heap.size) (by omega) [.int .i64 0, .slice A' 0 c', .slice A'' 0 c''] 0 _ (HX2.out.keep HG5.out)) (HTC.out _ (grew_put (w := w) (w2.heap.size) (by omega) [.int .i64 0, .slice A' 0 c', .slice A'' 0 c''] 0 _ (grew_trans HG2.out HG5.out)))
              | exact HSO.out _ (OwnC.putO (b2 := w4.heap.size) (by omega) [.int .i64 0, .slice A' 0 c', .slice A'' 0 c''] 0 _ (HX2.out.keep HG5.out)) (HTC.out _ (grew_put (w := w) (w4.heap.size) (by omega) [.int .i64 0, .slice A' 0 c', .slice A'' 0 c''] 0 _ (grew_trans HG2.out HG5.out)))
            clear hK K
            try simp only [Act.put, List.setIfInBounds_toArray, List.set_cons_zero, List.set_cons_succ]
            (refine wpAnyH_take (i := 13) (oi := { dst := some 9, op := Op.assign (Operand.tmp 32), type := 34, pos := "book.go:87", after := #[{ on := 10, ground := Ground.data }, { on := 12, ground := Ground.chain }, { on := 0, ground := Ground.phase }, { on := 1, ground := Ground.phase }, { on := 2, ground := Ground.phase }, { on := 3, ground := Ground.phase }, { on := 4, ground := Ground.phase }, { on := 5, ground := Ground.phase }, { on := 6, ground := Ground.phase }, { on := 7, ground := Ground.phase }, { on := 8, ground := Ground.phase }, { on := 9, ground := Ground.phase }, { on := 10, ground := Ground.phase }, { on := 11, ground := Ground.phase }, { on := 12, ground := Ground.phase }], guard := none }) (v := ?_) rfl (by kernel_rfl) (by kernel_rfl) (by kernel_rfl) (fun _ _ _ h => h) (Or.inl ⟨by rfl, ?_⟩) (by assumption) ?_; rotate_left; · (intro w hSw; (try dsimp only at hSw); go_simp; (first | done | with_reducible rfl)))
            try simp only [Act.put, List.setIfInBounds_toArray, List.set_cons_zero, List.set_cons_succ]
            refine wpAnyH_done (by kernel_rfl) ?_ _
            clear hHeld
            first
              | (have hsb : w2.heap.size + 1 ≤ w4.heap.size := (by have h9 := (HR4.out : Below _ _ _).size; simp at h9; omega); have HA : Hid (AtE w ((((w5).setCell ⟨w2.heap.size, 0, none⟩ (.int .i64 0)).setCell ⟨w2.heap.size, 1, none⟩ (.slice A' 0 c')).setCell ⟨w2.heap.size, 2, none⟩ (.slice A'' 0 c'')) (w2.heap.size) (w.heap.size) (w.heap.size + 1) [.int .i64 0, .slice A' 0 c', .slice A'' 0 c''] [.int .i64 nx, .slice (some ⟨bb, o, none⟩) n1 c1, .slice A2 n2 c2] [.int .i64 0, .slice none 0 0, .slice none 0 0] A' A'' 0 0 c' c'' [] []) := AtE.new (b := bk0) (vs := [.int .i64 0, .slice A' 0 c', .slice A'' 0 c'']) (((OwnC.new w2 [.int .i64 0, .slice none 0 0, .slice none 0 0] 28 _ rfl).keep (grew_trans (grew_drew (grew_refl _)) (grew_trans HR4.out HR5.out)))) (HX2.out.keep HG5.out) (HZ2.out.keep HG5.out) (HB5.out) (by omega) (fun x hx => by have := (HB5.out.t.block x hx).1; omega) (fun x hx => by have := (HB5.out.p.block x hx).1; omega) (grew_trans HG2.out HG5.out) ⟨by omega, by omega, by omega⟩ rfl; generalize (((w5).setCell ⟨w2.heap.size, 0, none⟩ (.int .i64 0)).setCell ⟨w2.heap.size, 1, none⟩ (.slice A' 0 c')).setCell ⟨w2.heap.size, 2, none⟩ (.slice A'' 0 c'') = wE at *; generalize hE : w2.heap.size = E at *)
              | (have hsc : w4.heap.size + 1 ≤ (w4.alloc (.cells #[.int .i64 0, .slice none 0 0, .slice none 0 0] 28)).heap.size := (by simp); have HA : Hid (AtE w ((((w5).setCell ⟨w4.heap.size, 0, none⟩ (.int .i64 0)).setCell ⟨w4.heap.size, 1, none⟩ (.slice A' 0 c')).setCell ⟨w4.heap.size, 2, none⟩ (.slice A'' 0 c'')) (w4.heap.size) (w.heap.size) (w.heap.size + 1) [.int .i64 0, .slice A' 0 c', .slice A'' 0 c''] [.int .i64 nx, .slice (some ⟨bb, o, none⟩) n1 c1, .slice A2 n2 c2] [.int .i64 0, .slice none 0 0, .slice none 0 0] A' A'' 0 0 c' c'' [] []) := AtE.new (b := bk0) (vs := [.int .i64 0, .slice A' 0 c', .slice A'' 0 c'']) (((OwnC.new w4 [.int .i64 0, .slice none 0 0, .slice none 0 0] 28 _ rfl).keep HR5.out)) (HX2.out.keep HG5.out) (HZ2.out.keep HG5.out) (HB5.out) (by omega) (fun x hx => by have := (HB5.out.t.block x hx).1; omega) (fun x hx => by have := (HB5.out.p.block x hx).1; omega) (grew_trans HG2.out HG5.out) ⟨by omega, by omega, by omega⟩ rfl; generalize (((w5).setCell ⟨w4.heap.size, 0, none⟩ (.int .i64 0)).setCell ⟨w4.heap.size, 1, none⟩ (.slice A' 0 c')).setCell ⟨w4.heap.size, 2, none⟩ (.slice A'' 0 c'') = wE at *; generalize hE : w4.heap.size = E at *)
              | (have HA : Hid (AtE w (w5.alloc (.cells #[.int .i64 0, .slice A' 0 c', .slice A'' 0 c''] 28)) (w5.heap.size) (w.heap.size) (w.heap.size + 1) [.int .i64 0, .slice A' 0 c', .slice A'' 0 c''] [.int .i64 nx, .slice (some ⟨bb, o, none⟩) n1 c1, .slice A2 n2 c2] [.int .i64 0, .slice none 0 0, .slice none 0 0] A' A'' 0 0 c' c'' [] []) := AtE.lay (b := bk0) (vs := [.int .i64 0, .slice A' 0 c', .slice A'' 0 c'']) (OwnC.new w5 [.int .i64 0, .slice A' 0 c', .slice A'' 0 c''] _ _ rfl) ((HX2.out.keep HG5.out).keep (grew_alloc _ _ _)) ((HZ2.out.keep HG5.out).keep (grew_alloc _ _ _)) (HB5.out.keep (grew_alloc _ _ _)) (by omega) (fun x hx => by have := (HB5.out.t.block x hx).2; omega) (fun x hx => by have := (HB5.out.p.block x hx).2; omega) (grew_trans HG2.out (grew_trans HG5.out (grew_alloc _ _ _))) ⟨by omega, by omega, by omega⟩; generalize w5.alloc (.cells #[.int .i64 0, .slice A' 0 c', .slice A'' 0 c''] 28) = wE at *; generalize hE : w5.heap.size = E at *)
            clear HS HSO HB5 HO4 HG5 HR5 HG4 HR4 HS4 HS5 HS2a
            have y0 : wE.cell? ⟨w.heap.size + 1, 0, none⟩ = some (.int .i64 0) := HA.out.cz.at 0 _ rfl
            have y1 : wE.cell? ⟨w.heap.size + 1, 1, none⟩ = some (.slice none 0 0) := HA.out.cz.at 1 _ rfl
            have y2 : wE.cell? ⟨w.heap.size + 1, 2, none⟩ = some (.slice none 0 0) := HA.out.cz.at 2 _ rfl
            have f0 : wE.frozen? ⟨w.heap.size + 1, 0, none⟩ = false := HA.out.cz.fr 0 (by show 0 < 3; omega)
            have f1 : wE.frozen? ⟨w.heap.size + 1, 1, none⟩ = false := HA.out.cz.fr 1 (by show 1 < 3; omega)
            have f2 : wE.frozen? ⟨w.heap.size + 1, 2, none⟩ = false := HA.out.cz.fr 2 (by show 2 < 3; omega)
            apply_assumption
            go_wp2
            have HAZ := HA.out.putZ [.int .i64 0, .slice none 0 0, .slice none 0 0] rfl
            have HP := HAZ.cz
            have HGP := HAZ.gr
            change bodyPost _ _ _ _ _ (putC wE (w.heap.size + 1) 0 [.int .i64 0, .slice none 0 0, .slice none 0 0])
            clear y0 y1 y2 f0 f1 f2 HAZ
            generalize putC wE (w.heap.size + 1) 0 [.int .i64 0, .slice none 0 0, .slice none 0 0] = w9 at *
            have z0 : w9.cell? ⟨w.heap.size + 1, 0, none⟩ = _ := HP.at 0 _ rfl
            have z1 : w9.cell? ⟨w.heap.size + 1, 1, none⟩ = _ := HP.at 1 _ rfl
            have z2 : w9.cell? ⟨w.heap.size + 1, 2, none⟩ = _ := HP.at 2 _ rfl
            refine bodyPost_ret (v := .tuple #[.agg #[.int .i64 0, .slice none 0 0, .slice none 0 0], .int .i64 ae]) (by simp [results, Tryz.results27, go_sem, z0, z1, z2]) rfl ?_
            exact HF.out _ HGP
        · go_simp
          refine hK.out _ _ ?_ (fun hHeld => ?_)
          · first
            | exact HS2a
            | exact HS4a
            | exact HS5a
          clear hK K
          try simp only [Act.put, List.setIfInBounds_toArray, List.set_cons_zero, List.set_cons_succ]
          refine wpAnyH_ready (rs := [6]) (by kernel_rfl) (by simp) ?_
          refine (AllReadyH.cons (o := { dst := some 29, op := Op.call { callee := Callee.value (Operand.func 53), args := #[Operand.tmp 28], argTypes := #[50] }, type := 26, pos := "book.go:87", after := #[{ on := 5, ground := Ground.data }], guard := none }) rfl (fun K hK => ?_) AllReadyH.nil)
          go_simp
          (go_at_call 53; (with_reducible refine (CL _).mono ?_); rintro e w4 ⟨A3, c3, rfl, ho, hg⟩; have HR4 := Lib.hid hg; have HG4 : Hid (Grew w2 w4) := grew_trans (by repeat (first | exact grew_refl _ | refine grew_drew ?_ | refine grew_trans ?_ (grew_alloc _ _ _))) hg; have HS4 := HS.out _ HG4.out; have HS4a := HS.out _ (grew_trans HG4.out (grew_alloc w4 #[.int .i64 0, .slice none 0 0, .slice none 0 0] 28)); have hs4 : w2.heap.size ≤ w4.heap.size := HG4.out.size; have HO4 := Lib.hid (ho.mono (Nat.zero_le _)); clear ho hg)
          refine hK.out _ _ ?_ (fun hHeld => ?_)
          · first
            | exact HS4
          clear hK K
          try simp only [Act.put, List.setIfInBounds_toArray, List.set_cons_zero, List.set_cons_succ]
          refine wpAnyH_ready (rs := [7]) (by kernel_rfl) (by simp) ?_
          refine (AllReadyH.cons (o := { dst := some 30, op := Op.call { callee := Callee.value (Operand.func 52), args := #[Operand.tmp 23, Operand.tmp 29], argTypes := #[28, 26] }, type := 43, pos := "book.go:87", after := #[{ on := 0, ground := Ground.data }, { on := 6, ground := Ground.data }, { on := 6, ground := Ground.chain }], guard := none }) rfl (fun K hK => ?_) AllReadyH.nil)
          go_simp
          (go_at_call 52; (with_reducible refine (CA _ _ _ (grew_trans HG2.out (grew_trans HG4.out (by repeat (first | exact grew_refl _ | refine grew_drew ?_ | refine grew_trans ?_ (grew_alloc _ _ _))))) (HO4.out.keep (by repeat (first | exact grew_refl _ | refine grew_drew ?_ | refine grew_trans ?_ (grew_alloc _ _ _))))).mono ?_); rintro e w5 ⟨A', A'', c', c'', rfl, hb, hg⟩; have HB5 := Lib.hid hb; have HR5 := Lib.hid hg; have HG5 : Hid (Grew w2 w5) := grew_trans HG4.out (grew_trans (by repeat (first | exact grew_refl _ | refine grew_drew ?_ | refine grew_trans ?_ (grew_alloc _ _ _))) hg); have HS5 := HS.out _ HG5.out; have HS5a := HS.out _ (grew_trans HG5.out (grew_alloc w5 #[.int .i64 0, .slice none 0 0, .slice none 0 0] 28)); have hs5 : w4.heap.size ≤ w5.heap.size := (grew_trans (c := w5) (by repeat (first | exact grew_refl _ | refine grew_drew ?_ | refine grew_trans ?_ (grew_alloc _ _ _))) hg : Grew w4 w5).size; clear hb hg)
          refine hK.out _ _ ?_ (fun hHeld => ?_)
          · first
            | exact HS5
          clear hK K
          try simp only [Act.put, List.setIfInBounds_toArray, List.set_cons_zero, List.set_cons_succ]
          (refine wpAnyH_take (i := 8) (oi := { dst := some 22, op := Op.move (Operand.tmp 30), type := 43, pos := "book.go:87", after := #[{ on := 7, ground := Ground.data }], guard := none }) (v := ?_) rfl (by kernel_rfl) (by kernel_rfl) (by kernel_rfl) (fun _ _ _ h => h) (Or.inl ⟨by rfl, ?_⟩) (by assumption) ?_; rotate_left; · (intro w hSw; (try dsimp only at hSw); go_simp; (first | done | with_reducible rfl)))
          try simp only [Act.put, List.setIfInBounds_toArray, List.set_cons_zero, List.set_cons_succ]
          (refine wpAnyH_take (i := 9) (oi := { dst := some 31, op := Op.extract (Operand.tmp 22) 0, type := 28, pos := "book.go:87", after := #[{ on := 8, ground := Ground.data }], guard := none }) (v := ?_) rfl (by kernel_rfl) (by kernel_rfl) (by kernel_rfl) (fun _ _ _ h => h) (Or.inl ⟨by rfl, ?_⟩) (by assumption) ?_; rotate_left; · (intro w hSw; (try dsimp only at hSw); go_simp; (first | done | with_reducible rfl)))
          try simp only [Act.put, List.setIfInBounds_toArray, List.set_cons_zero, List.set_cons_succ]
          (refine wpAnyH_take (i := 10) (oi := { dst := some 32, op := Op.extract (Operand.tmp 22) 1, type := 34, pos := "book.go:87", after := #[{ on := 8, ground := Ground.data }, { on := 12, ground := Ground.gcOnly Departure.lateStores }], guard := none }) (v := ?_) rfl (by kernel_rfl) (by kernel_rfl) (by kernel_rfl) (fun _ _ _ h => h) (Or.inl ⟨by rfl, ?_⟩) (by assumption) ?_; rotate_left; · (intro w hSw; (try dsimp only at hSw); go_simp; (first | done | with_reducible rfl)))
          try simp only [Act.put, List.setIfInBounds_toArray, List.set_cons_zero, List.set_cons_succ]
          refine wpAnyH_ready (rs := [12]) (by kernel_rfl) (by simp) ?_
          refine (AllReadyH.cons (o := { dst := none, op := Op.store 28 (Operand.tmp 8) (Operand.tmp 31), type := 0, pos := "book.go:87", after := #[{ on := 11, ground := Ground.data }, { on := 9, ground := Ground.data }, { on := 7, ground := Ground.chain }, { on := 0, ground := Ground.phase }, { on := 1, ground := Ground.phase }, { on := 2, ground := Ground.phase }, { on := 3, ground := Ground.phase }, { on := 4, ground := Ground.phase }, { on := 5, ground := Ground.phase }, { on := 6, ground := Ground.phase }, { on := 7, ground := Ground.phase }, { on := 8, ground := Ground.phase }, { on := 9, ground := Ground.phase }, { on := 10, ground := Ground.textOnly Departure.lateStores }, { on := 11, ground := Ground.phase }], guard := none }) rfl (fun K hK => ?_) AllReadyH.nil)
          first
            | (have HEB := (OwnC.new w2 [.int .i64 0, .slice none 0 0, .slice none 0 0] 28 _ rfl).keep (grew_trans (grew_drew (grew_refl _)) (grew_trans HR4.out HR5.out)); have e0 : w5.cell? ⟨w2.heap.size, 0, none⟩ = some (.int .i64 0) := HEB.at 0 _ rfl; have g0 : w5.frozen? ⟨w2.heap.size, 0, none⟩ = false := HEB.fr 0 (by show 0 < 3; omega); have e1 : w5.cell? ⟨w2.heap.size, 1, none⟩ = some (.slice none 0 0) := HEB.at 1 _ rfl; have g1 : w5.frozen? ⟨w2.heap.size, 1, none⟩ = false := HEB.fr 1 (by show 1 < 3; omega); have e2 : w5.cell? ⟨w2.heap.size, 2, none⟩ = some (.slice none 0 0) := HEB.at 2 _ rfl; have g2 : w5.frozen? ⟨w2.heap.size, 2, none⟩ = false := HEB.fr 2 (by show 2 < 3; omega); clear HEB)
            | (have HEB := (OwnC.new w4 [.int .i64 0, .slice none 0 0, .slice none 0 0] 28 _ rfl).keep HR5.out; have e0 : w5.cell? ⟨w4.heap.size, 0, none⟩ = some (.int .i64 0) := HEB.at 0 _ rfl; have g0 : w5.frozen? ⟨w4.heap.size, 0, none⟩ = false := HEB.fr 0 (by show 0 < 3; omega); have e1 : w5.cell? ⟨w4.heap.size, 1, none⟩ = some (.slice none 0 0) := HEB.at 1 _ rfl; have g1 : w5.frozen? ⟨w4.heap.size, 1, none⟩ = false := HEB.fr 1 (by show 1 < 3; omega); have e2 : w5.cell? ⟨w4.heap.size, 2, none⟩ = some (.slice none 0 0) := HEB.at 2 _ rfl; have g2 : w5.frozen? ⟨w4.heap.size, 2, none⟩ = false := HEB.fr 2 (by show 2 < 3; omega); clear HEB)
            | skip
          go_simp
          refine hK.out _ _ ?_ (fun hHeld => ?_)
          · first
            | exact HS.out _ (grew_trans HG5.out (grew_alloc _ _ _))
            | exact HSO.out _ (OwnC.putO (b2 := w2.heap.size) (by omega) [.int .i64 0, .slice A' 0 c', .slice A'' 0 c''] 0 _ (HX2.out.keep HG5.out)) (HTC.out _ (grew_put (w := w) (w2.heap.size) (by omega) [.int .i64 0, .slice A' 0 c', .slice A'' 0 c''] 0 _ (grew_trans HG2.out HG5.out)))
            | exact HSO.out _ (OwnC.putO (b2 := w4.heap.size) (by omega) [.int .i64 0, .slice A' 0 c', .slice A'' 0 c''] 0 _ (HX2.out.keep HG5.out)) (HTC.out _ (grew_put (w := w) (w4.heap.size) (by omega) [.int .i64 0, .slice A' 0 c', .slice A'' 0 c''] 0 _ (grew_trans HG2.out HG5.out)))
          clear hK K
          try simp only [Act.put, List.setIfInBounds_toArray, List.set_cons_zero, List.set_cons_succ]
          (refine wpAnyH_take (i := 13) (oi := { dst := some 9, op := Op.assign (Operand.tmp 32), type := 34, pos := "book.go:87", after := #[{ on := 10, ground := Ground.data }, { on := 12, ground := Ground.chain }, { on := 0, ground := Ground.phase }, { on := 1, ground := Ground.phase }, { on := 2, ground := Ground.phase }, { on := 3, ground := Ground.phase }, { on := 4, ground := Ground.phase }, { on := 5, ground := Ground.phase }, { on := 6, ground := Ground.phase }, { on := 7, ground := Ground.phase }, { on := 8, ground := Ground.phase }, { on := 9, ground := Ground.phase }, { on := 10, ground := Ground.phase }, { on := 11, ground := Ground.phase }, { on := 12, ground := Ground.phase }], guard := none }) (v := ?_) rfl (by kernel_rfl) (by kernel_rfl) (by kernel_rfl) (fun _ _ _ h => h) (Or.inl ⟨by rfl, ?_⟩) (by assumption) ?_; rotate_left; · (intro w hSw; (try dsimp only at hSw); go_simp; (first | done | with_reducible rfl)))
          try simp only [Act.put, List.setIfInBounds_toArray, List.set_cons_zero, List.set_cons_succ]
          refine wpAnyH_done (by kernel_rfl) ?_ _
          clear hHeld
          first
            | (have hsb : w2.heap.size + 1 ≤ w4.heap.size := (by have h9 := (HR4.out : Below _ _ _).size; simp at h9; omega); have HA : Hid (AtE w ((((w5).setCell ⟨w2.heap.size, 0, none⟩ (.int .i64 0)).setCell ⟨w2.heap.size, 1, none⟩ (.slice A' 0 c')).setCell ⟨w2.heap.size, 2, none⟩ (.slice A'' 0 c'')) (w2.heap.size) (w.heap.size) (w.heap.size + 1) [.int .i64 0, .slice A' 0 c', .slice A'' 0 c''] [.int .i64 nx, .slice (some ⟨bb, o, none⟩) n1 c1, .slice A2 n2 c2] [.int .i64 0, .slice none 0 0, .slice none 0 0] A' A'' 0 0 c' c'' [] []) := AtE.new (b := bk0) (vs := [.int .i64 0, .slice A' 0 c', .slice A'' 0 c'']) (((OwnC.new w2 [.int .i64 0, .slice none 0 0, .slice none 0 0] 28 _ rfl).keep (grew_trans (grew_drew (grew_refl _)) (grew_trans HR4.out HR5.out)))) (HX2.out.keep HG5.out) (HZ2.out.keep HG5.out) (HB5.out) (by omega) (fun x hx => by have := (HB5.out.t.block x hx).1; omega) (fun x hx => by have := (HB5.out.p.block x hx).1; omega) (grew_trans HG2.out HG5.out) ⟨by omega, by omega, by omega⟩ rfl; generalize (((w5).setCell ⟨w2.heap.size, 0, none⟩ (.int .i64 0)).setCell ⟨w2.heap.size, 1, none⟩ (.slice A' 0 c')).setCell ⟨w2.heap.size, 2, none⟩ (.slice A'' 0 c'') = wE at *; generalize hE : w2.heap.size = E at *)
            | (have hsc : w4.heap.size + 1 ≤ (w4.alloc (.cells #[.int .i64 0, .slice none 0 0, .slice none 0 0] 28)).heap.size := (by simp); have HA : Hid (AtE w ((((w5).setCell ⟨w4.heap.size, 0, none⟩ (.int .i64 0)).setCell ⟨w4.heap.size, 1, none⟩ (.slice A' 0 c')).setCell ⟨w4.heap.size, 2, none⟩ (.slice A'' 0 c'')) (w4.heap.size) (w.heap.size) (w.heap.size + 1) [.int .i64 0, .slice A' 0 c', .slice A'' 0 c''] [.int .i64 nx, .slice (some ⟨bb, o, none⟩) n1 c1, .slice A2 n2 c2] [.int .i64 0, .slice none 0 0, .slice none 0 0] A' A'' 0 0 c' c'' [] []) := AtE.new (b := bk0) (vs := [.int .i64 0, .slice A' 0 c', .slice A'' 0 c'']) (((OwnC.new w4 [.int .i64 0, .slice none 0 0, .slice none 0 0] 28 _ rfl).keep HR5.out)) (HX2.out.keep HG5.out) (HZ2.out.keep HG5.out) (HB5.out) (by omega) (fun x hx => by have := (HB5.out.t.block x hx).1; omega) (fun x hx => by have := (HB5.out.p.block x hx).1; omega) (grew_trans HG2.out HG5.out) ⟨by omega, by omega, by omega⟩ rfl; generalize (((w5).setCell ⟨w4.heap.size, 0, none⟩ (.int .i64 0)).setCell ⟨w4.heap.size, 1, none⟩ (.slice A' 0 c')).setCell ⟨w4.heap.size, 2, none⟩ (.slice A'' 0 c'') = wE at *; generalize hE : w4.heap.size = E at *)
            | (have HA : Hid (AtE w (w5.alloc (.cells #[.int .i64 0, .slice A' 0 c', .slice A'' 0 c''] 28)) (w5.heap.size) (w.heap.size) (w.heap.size + 1) [.int .i64 0, .slice A' 0 c', .slice A'' 0 c''] [.int .i64 nx, .slice (some ⟨bb, o, none⟩) n1 c1, .slice A2 n2 c2] [.int .i64 0, .slice none 0 0, .slice none 0 0] A' A'' 0 0 c' c'' [] []) := AtE.lay (b := bk0) (vs := [.int .i64 0, .slice A' 0 c', .slice A'' 0 c'']) (OwnC.new w5 [.int .i64 0, .slice A' 0 c', .slice A'' 0 c''] _ _ rfl) ((HX2.out.keep HG5.out).keep (grew_alloc _ _ _)) ((HZ2.out.keep HG5.out).keep (grew_alloc _ _ _)) (HB5.out.keep (grew_alloc _ _ _)) (by omega) (fun x hx => by have := (HB5.out.t.block x hx).2; omega) (fun x hx => by have := (HB5.out.p.block x hx).2; omega) (grew_trans HG2.out (grew_trans HG5.out (grew_alloc _ _ _))) ⟨by omega, by omega, by omega⟩; generalize w5.alloc (.cells #[.int .i64 0, .slice A' 0 c', .slice A'' 0 c''] 28) = wE at *; generalize hE : w5.heap.size = E at *)
          clear HS HSO HB5 HO4 HG5 HR5 HG4 HR4 HS4 HS5 HS2a
          have y0 : wE.cell? ⟨w.heap.size + 1, 0, none⟩ = some (.int .i64 0) := HA.out.cz.at 0 _ rfl
          have y1 : wE.cell? ⟨w.heap.size + 1, 1, none⟩ = some (.slice none 0 0) := HA.out.cz.at 1 _ rfl
          have y2 : wE.cell? ⟨w.heap.size + 1, 2, none⟩ = some (.slice none 0 0) := HA.out.cz.at 2 _ rfl
          have f0 : wE.frozen? ⟨w.heap.size + 1, 0, none⟩ = false := HA.out.cz.fr 0 (by show 0 < 3; omega)
          have f1 : wE.frozen? ⟨w.heap.size + 1, 1, none⟩ = false := HA.out.cz.fr 1 (by show 1 < 3; omega)
          have f2 : wE.frozen? ⟨w.heap.size + 1, 2, none⟩ = false := HA.out.cz.fr 2 (by show 2 < 3; omega)
          apply_assumption
          go_wp2
          have HAZ := HA.out.putZ [.int .i64 0, .slice none 0 0, .slice none 0 0] rfl
          have HP := HAZ.cz
          have HGP := HAZ.gr
          change bodyPost _ _ _ _ _ (putC wE (w.heap.size + 1) 0 [.int .i64 0, .slice none 0 0, .slice none 0 0])
          clear y0 y1 y2 f0 f1 f2 HAZ
          generalize putC wE (w.heap.size + 1) 0 [.int .i64 0, .slice none 0 0, .slice none 0 0] = w9 at *
          have z0 : w9.cell? ⟨w.heap.size + 1, 0, none⟩ = _ := HP.at 0 _ rfl
          have z1 : w9.cell? ⟨w.heap.size + 1, 1, none⟩ = _ := HP.at 1 _ rfl
          have z2 : w9.cell? ⟨w.heap.size + 1, 2, none⟩ = _ := HP.at 2 _ rfl
          refine bodyPost_ret (v := .tuple #[.agg #[.int .i64 0, .slice none 0 0, .slice none 0 0], .int .i64 ae]) (by simp [results, Tryz.results27, go_sem, z0, z1, z2]) rfl ?_
          exact HF.out _ HGP
    | none =>
      rw [hix] at CS
      dsimp only at CS
      have he : cancelE b no = 10 := by unfold cancelE; rw [if_pos hr, ixT_none hix]; rfl
      have HF := Lib.hid (cancel_no he (by decide) (w := w))
      clear h he hr hix
      generalize BookE (cancelB b no) (cancelE b no) w = PP at *
      dsimp only [vBk] at *
      generalize b.1 = nx at *
      have HX0 : Hid (OwnC ((w.alloc (.cells #[.int .i64 nx, .slice A1 n1 c1, .slice A2 n2 c2] 28)).alloc (.cells #[.int .i64 0, .slice none 0 0, .slice none 0 0] 28)) w.heap.size [.int .i64 nx, .slice A1 n1 c1, .slice A2 n2 c2]) := (OwnC.new w [.int .i64 nx, .slice A1 n1 c1, .slice A2 n2 c2] _ _ rfl).keep (grew_alloc _ _ _)
      have HZ0 : Hid (OwnC ((w.alloc (.cells #[.int .i64 nx, .slice A1 n1 c1, .slice A2 n2 c2] 28)).alloc (.cells #[.int .i64 0, .slice none 0 0, .slice none 0 0] 28)) (w.heap.size + 1) [.int .i64 0, .slice none 0 0, .slice none 0 0]) := OwnC.new _ [.int .i64 0, .slice none 0 0, .slice none 0 0] _ _ (by simp)
      have HG0 : Hid (Grew w ((w.alloc (.cells #[.int .i64 nx, .slice A1 n1 c1, .slice A2 n2 c2] 28)).alloc (.cells #[.int .i64 0, .slice none 0 0, .slice none 0 0] 28))) := grew_trans (grew_alloc _ _ _) (grew_alloc _ _ _)
      go_enter Tryz.func27, Tryz.ntmps27
      go_upto_region 1 with fail
      generalize (w.alloc (.cells #[.int .i64 nx, .slice A1 n1 c1, .slice A2 n2 c2] 28)).alloc (.cells #[.int .i64 0, .slice none 0 0, .slice none 0 0] 28) = w0 at *
      have x0 : w0.cell? ⟨w.heap.size, 0, none⟩ = some (.int .i64 nx) := HX0.out.at 0 _ rfl
      have x1 : w0.cell? ⟨w.heap.size, 1, none⟩ = some (.slice A1 n1 c1) := HX0.out.at 1 _ rfl
      have x2 : w0.cell? ⟨w.heap.size, 2, none⟩ = some (.slice A2 n2 c2) := HX0.out.at 2 _ rfl
      go_wp2_with (first
        | (go_at_call 12; ((with_reducible refine (CC _ HG0.out).mono ?_); rintro e w1 ⟨rfl, hg⟩; have HG1 := Lib.hid (grew_trans HG0.out hg); have HX1 := Lib.hid (HX0.out.keep hg); have HZ1 := Lib.hid (HZ0.out.keep hg); clear x0 x1 x2; have x0 : w1.cell? ⟨w.heap.size, 0, none⟩ = some (.int .i64 nx) := HX1.out.at 0 _ rfl; have x1 : w1.cell? ⟨w.heap.size, 1, none⟩ = some (.slice A1 n1 c1) := HX1.out.at 1 _ rfl; have x2 : w1.cell? ⟨w.heap.size, 2, none⟩ = some (.slice A2 n2 c2) := HX1.out.at 2 _ rfl; clear hg CC))
        | (go_at_call 51; ((with_reducible refine (CS _ HG1.out).mono ?_); rintro e w2 ⟨rfl, hg⟩; have HG2 := Lib.hid (grew_trans HG1.out hg); have HX2 := Lib.hid (HX1.out.keep hg); have HZ2 := Lib.hid (HZ1.out.keep hg); clear x0 x1 x2; have y0 : w2.cell? ⟨w.heap.size + 1, 0, none⟩ = some (.int .i64 0) := HZ2.out.at 0 _ rfl; have f0 : w2.frozen? ⟨w.heap.size + 1, 0, none⟩ = false := HZ2.out.fr 0 (by decide); have y1 : w2.cell? ⟨w.heap.size + 1, 1, none⟩ = some (.slice none 0 0) := HZ2.out.at 1 _ rfl; have f1 : w2.frozen? ⟨w.heap.size + 1, 1, none⟩ = false := HZ2.out.fr 1 (by decide); have y2 : w2.cell? ⟨w.heap.size + 1, 2, none⟩ = some (.slice none 0 0) := HZ2.out.at 2 _ rfl; have f2 : w2.frozen? ⟨w.heap.size + 1, 2, none⟩ = false := HZ2.out.fr 2 (by decide); clear hg CS)))
      have HP := HZ2.out.all [.int .i64 0, .slice none 0 0, .slice none 0 0] rfl
      have HGP := grew_put (w := w) (w.heap.size + 1) (by omega) [.int .i64 0, .slice none 0 0, .slice none 0 0] 0 _ HG2.out
      change bodyPost _ _ _ _ _ (putC w2 (w.heap.size + 1) 0 [.int .i64 0, .slice none 0 0, .slice none 0 0])
      clear y0 y1 y2 f0 f1 f2
      generalize putC w2 (w.heap.size + 1) 0 [.int .i64 0, .slice none 0 0, .slice none 0 0] = w9 at *
      have z0 : w9.cell? ⟨w.heap.size + 1, 0, none⟩ = _ := HP.at 0 _ rfl
      have z1 : w9.cell? ⟨w.heap.size + 1, 1, none⟩ = _ := HP.at 1 _ rfl
      have z2 : w9.cell? ⟨w.heap.size + 1, 2, none⟩ = _ := HP.at 2 _ rfl
      refine bodyPost_ret (v := .tuple #[.agg #[.int .i64 0, .slice none 0 0, .slice none 0 0], .int .i64 10]) (by simp [results, Tryz.results27, go_sem, z0, z1, z2]) rfl ?_
      exact HF.out _ HGP
  · rw [Bool.not_eq_true] at hr
    have he : cancelE b no = 14 := by unfold cancelE; rw [hr]; rfl
    have HF := Lib.hid (cancel_no he (by decide) (w := w))
    rw [chkB_no hr] at CC
    clear h he hr
    generalize BookE (cancelB b no) (cancelE b no) w = PP at *
    dsimp only [vBk] at *
    generalize b.1 = nx at *
    have HX0 : Hid (OwnC ((w.alloc (.cells #[.int .i64 nx, .slice A1 n1 c1, .slice A2 n2 c2] 28)).alloc (.cells #[.int .i64 0, .slice none 0 0, .slice none 0 0] 28)) w.heap.size [.int .i64 nx, .slice A1 n1 c1, .slice A2 n2 c2]) := (OwnC.new w [.int .i64 nx, .slice A1 n1 c1, .slice A2 n2 c2] _ _ rfl).keep (grew_alloc _ _ _)
    have HZ0 : Hid (OwnC ((w.alloc (.cells #[.int .i64 nx, .slice A1 n1 c1, .slice A2 n2 c2] 28)).alloc (.cells #[.int .i64 0, .slice none 0 0, .slice none 0 0] 28)) (w.heap.size + 1) [.int .i64 0, .slice none 0 0, .slice none 0 0]) := OwnC.new _ [.int .i64 0, .slice none 0 0, .slice none 0 0] _ _ (by simp)
    have HG0 : Hid (Grew w ((w.alloc (.cells #[.int .i64 nx, .slice A1 n1 c1, .slice A2 n2 c2] 28)).alloc (.cells #[.int .i64 0, .slice none 0 0, .slice none 0 0] 28))) := grew_trans (grew_alloc _ _ _) (grew_alloc _ _ _)
    go_enter Tryz.func27, Tryz.ntmps27
    go_upto_region 1 with fail
    generalize (w.alloc (.cells #[.int .i64 nx, .slice A1 n1 c1, .slice A2 n2 c2] 28)).alloc (.cells #[.int .i64 0, .slice none 0 0, .slice none 0 0] 28) = w0 at *
    have x0 : w0.cell? ⟨w.heap.size, 0, none⟩ = some (.int .i64 nx) := HX0.out.at 0 _ rfl
    have x1 : w0.cell? ⟨w.heap.size, 1, none⟩ = some (.slice A1 n1 c1) := HX0.out.at 1 _ rfl
    have x2 : w0.cell? ⟨w.heap.size, 2, none⟩ = some (.slice A2 n2 c2) := HX0.out.at 2 _ rfl
    go_wp2_with (go_at_call 12; ((with_reducible refine (CC _ HG0.out).mono ?_); rintro e w1 ⟨rfl, hg⟩; have HG1 := Lib.hid (grew_trans HG0.out hg); have HX1 := Lib.hid (HX0.out.keep hg); have HZ1 := Lib.hid (HZ0.out.keep hg); clear x0 x1 x2; have y0 : w1.cell? ⟨w.heap.size + 1, 0, none⟩ = some (.int .i64 0) := HZ1.out.at 0 _ rfl; have f0 : w1.frozen? ⟨w.heap.size + 1, 0, none⟩ = false := HZ1.out.fr 0 (by decide); have y1 : w1.cell? ⟨w.heap.size + 1, 1, none⟩ = some (.slice none 0 0) := HZ1.out.at 1 _ rfl; have f1 : w1.frozen? ⟨w.heap.size + 1, 1, none⟩ = false := HZ1.out.fr 1 (by decide); have y2 : w1.cell? ⟨w.heap.size + 1, 2, none⟩ = some (.slice none 0 0) := HZ1.out.at 2 _ rfl; have f2 : w1.frozen? ⟨w.heap.size + 1, 2, none⟩ = false := HZ1.out.fr 2 (by decide); clear hg CC))
    have HP := HZ1.out.all [.int .i64 0, .slice none 0 0, .slice none 0 0] rfl
    have HGP := grew_put (w := w) (w.heap.size + 1) (by omega) [.int .i64 0, .slice none 0 0, .slice none 0 0] 0 _ HG1.out
    change bodyPost _ _ _ _ _ (putC w1 (w.heap.size + 1) 0 [.int .i64 0, .slice none 0 0, .slice none 0 0])
    clear y0 y1 y2 f0 f1 f2
    generalize putC w1 (w.heap.size + 1) 0 [.int .i64 0, .slice none 0 0, .slice none 0 0] = w9 at *
    have z0 : w9.cell? ⟨w.heap.size + 1, 0, none⟩ = _ := HP.at 0 _ rfl
    have z1 : w9.cell? ⟨w.heap.size + 1, 1, none⟩ = _ := HP.at 1 _ rfl
    have z2 : w9.cell? ⟨w.heap.size + 1, 2, none⟩ = _ := HP.at 2 _ rfl
    refine bodyPost_ret (v := .tuple #[.agg #[.int .i64 0, .slice none 0 0, .slice none 0 0], .int .i64 14]) (by simp [results, Tryz.results27, go_sem, z0, z1, z2]) rfl ?_
    exact HF.out _ HGP
end Go.Proofs.YtahioajpmlochaaGreat.NumK
