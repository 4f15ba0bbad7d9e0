/- A book behind acts; what is more than is played. -/
import Derived.Test.YtkbmiajgmnfpfaaRW3
namespace Go.Proofs.Ytkbmiajgmnfpfaa.NumK
open Go.RowKit
set_option linter.unusedVariables false

set_option maxRecDepth 100000 in
set_option maxHeartbeats 1000000 in
theorem heavy_any (nx : Int) (A1 A2 : Option Addr) (n1 n2 c1 c2 : Nat) (w : World) :
    Calls Try.prog 9 #[vBk nx A1 A2 n1 n2 c1 c2] w fun e w' => e = .returned (.bool (decide (300 < n1) || decide (300 < n2))) ∧ Grew w w' := by
  dsimp only [vBk]
  go_enter Try.func9, Try.ntmps9
  by_cases h1 : 300 < n1
  · have k1 : (300 : Int) < (n1 : Int) := by omega
    go_wp2
    go_ret
    exact ⟨by simp [h1], grew_alloc _ _ _⟩
  · have k1 : ¬ (300 : Int) < (n1 : Int) := by omega
    by_cases h2 : 300 < n2
    · have k2 : (300 : Int) < (n2 : Int) := by omega
      go_wp2
      go_ret
      exact ⟨by simp, grew_alloc _ _ _⟩
    · have k2 : ¬ (300 : Int) < (n2 : Int) := by omega
      go_wp2
      go_ret
      exact ⟨by simp, grew_alloc _ _ _⟩

/-! ### a book behind acts -/
def growS (b : Bk) (a : Ac13) : Bk := if doE b a = 0 then doB b a else b
def growL (l : List Ac13) : Bk := l.foldl growS bk0
theorem grow_snoc (l : List Ac13) {k : Nat} (h : k < l.length) : growL (l.take (k + 1)) = growS (growL (l.take k)) (l.getD k ac130) := by
  have : l.take (k + 1) = l.take k ++ [l.getD k ac130] := by
    rw [List.take_add_one, List.getElem?_eq_getElem h]
    simp [List.getD_eq_getElem?_getD, h]
  rw [this]; unfold growL; rw [List.foldl_append]; rfl
theorem grow_take (l : List Ac13) {n k : Nat} (hn : l.length = n) (hk : k ≤ n) (h : ¬ (k < n ∧ k < 100)) (h2 : k ≤ 100) : growL (l.take k) = growL (l.take 100) := by
  have : l.take k = l.take 100 := by
    by_cases h3 : k = 100
    · rw [h3]
    · rw [List.take_of_length_le (by omega), List.take_of_length_le (by omega)]
  rw [this]
theorem GB.grow (l : List Ac13) : ∀ k, GB (growL (l.take k)) k
  | 0 => GB.zero
  | k + 1 => by
    by_cases h : k < l.length
    · rw [grow_snoc l h]
      unfold growS
      split
      · rename_i he; exact (GB.grow l k).do he
      · exact (GB.grow l k).mono (Nat.le_succ _)
    · rw [show l.take (k + 1) = l.take k by rw [List.take_of_length_le (by omega), List.take_of_length_le (by omega)]]
      exact (GB.grow l k).mono (Nat.le_succ _)
theorem right_lens {b : Bk} (h : rightB b = true) : b.2.1.length ≤ 128 ∧ b.2.2.length ≤ 128 := by
  obtain ⟨h1, h2, h3⟩ := (rightB_iff b).1 h
  refine ⟨h2.2, ?_⟩
  rw [← right_self h3]; exact plA_len _
/-- An act in memory. -/
def CAc13 (w : World) (b p : Nat) (a : Ac13) : Prop :=
  w.cell? ⟨b, p, none⟩ = some (.int .i64 a.1.1) ∧ w.cell? ⟨b, p + 1, none⟩ = some (.int .i64 a.1.2.1) ∧ w.cell? ⟨b, p + 2, none⟩ = some (.int .i64 a.1.2.2.1) ∧ w.cell? ⟨b, p + 3, none⟩ = some (.int .i64 a.1.2.2.2)
    ∧ w.cell? ⟨b, p + 4, none⟩ = some (.int .i64 a.2.1.1) ∧ w.cell? ⟨b, p + 5, none⟩ = some (.int .i64 a.2.1.2.1) ∧ w.cell? ⟨b, p + 6, none⟩ = some (.int .i64 a.2.1.2.2.1) ∧ w.cell? ⟨b, p + 7, none⟩ = some (.int .i64 a.2.1.2.2.2.1)
    ∧ w.cell? ⟨b, p + 8, none⟩ = some (.int .i64 a.2.1.2.2.2.2.1) ∧ w.cell? ⟨b, p + 9, none⟩ = some (.int .i64 a.2.1.2.2.2.2.2) ∧ w.cell? ⟨b, p + 10, none⟩ = some (.bool a.2.2)
theorem CAc13.keep {w w' : World} {b p : Nat} {t : Ac13} (h : CAc13 w b p t) (g : Grew w w') (hb : b < w.heap.size) : CAc13 w' b p t := by
  obtain ⟨h1, h2, h3, h4, h5, h6, h7, h8, h9, h10, h11⟩ := h
  exact ⟨(grew_cell g (p := ⟨b, _, none⟩) hb).trans h1, (grew_cell g (p := ⟨b, _, none⟩) hb).trans h2, (grew_cell g (p := ⟨b, _, none⟩) hb).trans h3, (grew_cell g (p := ⟨b, _, none⟩) hb).trans h4, (grew_cell g (p := ⟨b, _, none⟩) hb).trans h5, (grew_cell g (p := ⟨b, _, none⟩) hb).trans h6, (grew_cell g (p := ⟨b, _, none⟩) hb).trans h7, (grew_cell g (p := ⟨b, _, none⟩) hb).trans h8, (grew_cell g (p := ⟨b, _, none⟩) hb).trans h9, (grew_cell g (p := ⟨b, _, none⟩) hb).trans h10, (grew_cell g (p := ⟨b, _, none⟩) hb).trans h11⟩
theorem RowE.ac13 {w : World} {n : Nat} {l : List Ac13} {A : Option Addr} (h : RowE enAc13 w A n l) {j : Nat} (hj : j < n) : ∃ b o, A = some ⟨b, o, none⟩ ∧ b < w.heap.size ∧ ∀ j, j < n → CAc13 w b (o + j * 11) (l.getD j ac130) := by
  have hl := h.len
  obtain ⟨b, o, e, hb, hc⟩ := h.at (by omega)
  refine ⟨b, o, e, hb, fun j hj => ?_⟩
  have hj' : j < l.length := by omega
  rw [getD_at l ac130 j hj']
  exact ⟨hc j hj' 0 (by decide), hc j hj' 1 (by decide), hc j hj' 2 (by decide), hc j hj' 3 (by decide), hc j hj' 4 (by decide), hc j hj' 5 (by decide), hc j hj' 6 (by decide), hc j hj' 7 (by decide), hc j hj' 8 (by decide), hc j hj' 9 (by decide), hc j hj' 10 (by decide)⟩
set_option maxRecDepth 100000 in
set_option maxHeartbeats 8000000 in
theorem grown13_any (A : Option Addr) (n c : Nat) (l : List Ac13) (w : World) (h : RowE enAc13 w A n l) (hn : n ≤ 100000) :
    Calls Try.prog 24 #[.slice A n c] w (BookP (growL (l.take 100)) w) := by
  have HL := Lib.hid h.len
  have HI := Lib.hid h
  have HF : Hid (∀ w' A' A'' c' c'', OwnB w' w.heap.size (growL (l.take 100)) A' A'' c' c'' → Grew w w' → BookP (growL (l.take 100)) w (.returned (.agg #[.int .i64 (growL (l.take 100)).1, .slice A' (growL (l.take 100)).2.1.length c', .slice A'' (growL (l.take 100)).2.2.length c''])) w') := fun w' A' A'' c' c'' ho g => ⟨A', A'', c', c'', rfl, ho, g⟩
  generalize BookP (growL (l.take 100)) w = PP at *
  clear h
  go_enter Try.func24, Try.ntmps24
  go_upto_region 3 with fail
  go_loopw [4] (fun vi wr => ∃ (k : Nat) (nx : Int) (lt : List Tr) (lp : List Po) (A1 A2 : Option Addr) (c1 c2 : Nat), vi = .int .i64 k ∧ k ≤ n ∧ k ≤ 100 ∧ Hid (growL (l.take k) = (nx, lt, lp)) ∧ Hid (OwnC wr (w.heap.size + 1) [.int .i64 nx, .slice A1 lt.length c1, .slice A2 lp.length c2]) ∧ Hid (OwnC wr w.heap.size [.int .i64 0, .slice none 0 0, .slice none 0 0]) ∧ Hid (OwnB wr (w.heap.size + 2) (nx, lt, lp) A1 A2 c1 c2) ∧ Hid (Grew w wr)) (fun vi _ => n - (intOf vi).toNat)
  case atStart => exact ⟨0, 0, [], [], none, none, 0, 0, rfl, Nat.zero_le _, Nat.zero_le _, rfl, OwnC.new _ _ _ _ (by simp), (OwnC.new w _ _ _ rfl).keep (grew_alloc _ _ _), OwnB.nil _ _, grew_trans (grew_alloc _ _ _) (grew_alloc _ _ _)⟩
  case round =>
    obtain ⟨k, nx, lt, lp, A1, A2, c1, c2, rfl, hk, hk2, HE, HX, HR, HB, HG⟩ := hrel
    by_cases hlt : k < n ∧ k < 100
    · obtain ⟨b, o, rfl, hb, hc⟩ := (HI.out.keep HG.out).ac13 hlt.1
      have HC1 : Hid (∀ w', Grew wr w' → CAc13 w' b (o + k * 11) (l.getD k ac130)) := fun w' g => (hc k hlt.1).keep g hb
      have HGB := Lib.hid (GB.grow l k)
      rw [HE.out] at HGB
      have hlen := right_lens HGB.out.right
      have CD := fun w' (g : Grew wr w') => do13_any (nx, lt, lp) (l.getD k ac130) A1 A2 lt.length lp.length c1 c2 w' (HB.out.in.keep g) ⟨by have := hlen.1; dsimp only at this; omega, by have := hlen.2; dsimp only at this; omega⟩
      unfold BookE at CD
      have HNX : Hid (growL (l.take (k + 1)) = growS (nx, lt, lp) (l.getD k ac130)) := by show _ = _; rw [grow_snoc l (by rw [HL.out]; exact hlt.1), HE.out]
      clear hc hb
      have i0 : (0 : Int) ≤ (k : Int) := by omega
      have i1 : (k : Int) < (n : Int) := by omega
      have i2 : (k : Int) < 100 := by omega
      unfold growS at HNX
      generalize l.getD k ac130 = x at *
      generalize doE (nx, lt, lp) x = ee at *
      generalize hdb : doB (nx, lt, lp) x = eb at *
      clear hdb
      obtain ⟨ex, el, ep⟩ := eb
      obtain ⟨⟨a1, a2, a3, a4⟩, ⟨⟨q1, q2, q3, q4, q5, q6⟩, q7⟩⟩ := x
      dsimp only [vBk, vAc13, vTr] at CD
      go_upto_region 5 with fail
      have hsz : w.heap.size + 2 ≤ wr.heap.size := by have := HX.out.lt; omega
      refine wp_region_noPanic ?_
      refine wp_region_held_drew (S := fun w' => Grew wr w') (by kernel_rfl) (grew_drew (grew_refl _)) (fun hHeld => ?_)
      (refine wpAnyH_take (i := 0) (oi := { dst := some 19, op := Op.load 25 (Operand.tmp 3), type := 25, pos := "law.go:94", after := #[], guard := none }) (v := ?_) rfl (by kernel_rfl) (by kernel_rfl) (by kernel_rfl) (fun _ _ _ h => h) (Or.inl ⟨by rfl, ?_⟩) (by assumption) ?_; rotate_left; · (intro w hSw; (try dsimp only at hSw); have x0 := (HX.out.keep hSw).at 0 (.int .i64 nx) rfl; have x1 := (HX.out.keep hSw).at 1 (.slice A1 lt.length c1) rfl; have x2 := (HX.out.keep hSw).at 2 (.slice A2 lp.length c2) rfl; go_simp; (first | done | with_reducible rfl)))
      try simp only [Act.put, List.setIfInBounds_toArray, List.set_cons_zero, List.set_cons_succ]
      (refine wpAnyH_take (i := 1) (oi := { dst := some 20, op := Op.move (Operand.tmp 0), type := 45, pos := "law.go:94", after := #[], guard := none }) (v := ?_) rfl (by kernel_rfl) (by kernel_rfl) (by kernel_rfl) (fun _ _ _ h => h) (Or.inl ⟨by rfl, ?_⟩) (by assumption) ?_; rotate_left; · (intro w hSw; (try dsimp only at hSw); skip; go_simp; (first | done | with_reducible rfl)))
      try simp only [Act.put, List.setIfInBounds_toArray, List.set_cons_zero, List.set_cons_succ]
      (refine wpAnyH_take (i := 2) (oi := { dst := some 21, op := Op.move (Operand.tmp 4), type := 3, pos := "law.go:94", after := #[], guard := none }) (v := ?_) rfl (by kernel_rfl) (by kernel_rfl) (by kernel_rfl) (fun _ _ _ h => h) (Or.inl ⟨by rfl, ?_⟩) (by assumption) ?_; rotate_left; · (intro w hSw; (try dsimp only at hSw); skip; go_simp; (first | done | with_reducible rfl)))
      try simp only [Act.put, List.setIfInBounds_toArray, List.set_cons_zero, List.set_cons_succ]
      (refine wpAnyH_take (i := 3) (oi := { dst := some 22, op := Op.indexAddr 45 (Operand.tmp 20) (Operand.tmp 21), type := 0, pos := "law.go:94", after := #[{ on := 1, ground := Ground.data }, { on := 2, ground := Ground.data }], guard := none }) (v := ?_) rfl (by kernel_rfl) (by kernel_rfl) (by kernel_rfl) (fun _ _ _ h => h) (Or.inl ⟨by rfl, ?_⟩) (by assumption) ?_; rotate_left; · (intro w hSw; (try dsimp only at hSw); skip; go_simp; (first | done | with_reducible rfl)))
      try simp only [Act.put, List.setIfInBounds_toArray, List.set_cons_zero, List.set_cons_succ]
      (refine wpAnyH_take (i := 4) (oi := { dst := some 23, op := Op.load 82 (Operand.tmp 22), type := 82, pos := "law.go:94", after := #[{ on := 3, ground := Ground.data }], guard := none }) (v := ?_) rfl (by kernel_rfl) (by kernel_rfl) (by kernel_rfl) (fun _ _ _ h => h) (Or.inl ⟨by rfl, ?_⟩) (by assumption) ?_; rotate_left; · (intro w hSw; (try dsimp only at hSw); obtain ⟨b0, b1, b2, b3, b4, b5, b6, b7, b8, b9, b10⟩ := HC1.out _ hSw; dsimp only at b0 b1 b2 b3 b4 b5 b6 b7 b8 b9 b10; go_simp; (first | done | with_reducible rfl)))
      try simp only [Act.put, List.setIfInBounds_toArray, List.set_cons_zero, List.set_cons_succ]
      refine wpAnyH_ready (rs := [5, 9]) (by kernel_rfl) (by simp) ?_
      refine (AllReadyH.cons (o := { dst := some 24, op := Op.call { callee := Callee.value (Operand.func 49), args := #[Operand.tmp 19, Operand.tmp 23], argTypes := #[25, 82] }, type := 38, pos := "law.go:94", after := #[{ on := 0, ground := Ground.data }, { on := 4, ground := Ground.data }], guard := none }) rfl (fun K hK => ?_) (AllReadyH.cons (o := { dst := some 5, op := Op.alloc 25, type := 0, pos := "law.go:94", after := #[], guard := none }) rfl (fun K hK => ?_) AllReadyH.nil))
      · go_simp
        (go_at_call 49; (with_reducible refine (CD _ (by repeat (first | exact HG5.out | exact grew_refl _ | refine grew_drew ?_ | refine grew_trans ?_ (grew_alloc _ _ _)))).mono ?_); rintro e w5 ⟨B1, B2, d1, d2, rfl, hb, hg⟩; have HB6 := Lib.hid hb; have HB5 := Lib.hid (hb.mono (b2 := w.heap.size + 2) (Nat.le_trans hsz (show Grew wr _ from (by repeat (first | exact HG5.out | exact grew_refl _ | refine grew_drew ?_ | refine grew_trans ?_ (grew_alloc _ _ _)))).size)); have HR5 := Lib.hid hg; have HG5 : Hid (Grew wr w5) := grew_trans (by repeat (first | exact HG5.out | exact grew_refl _ | refine grew_drew ?_ | refine grew_trans ?_ (grew_alloc _ _ _))) hg; clear hb hg)
        refine hK.out _ _ ?_ (fun hHeld => ?_)
        · first
          | exact (by repeat (first | exact HG5.out | exact grew_refl _ | refine grew_drew ?_ | refine grew_trans ?_ (grew_alloc _ _ _)))
        clear hK K
        try simp only [Act.put, List.setIfInBounds_toArray, List.set_cons_zero, List.set_cons_succ]
        (refine wpAnyH_take (i := 6) (oi := { dst := some 18, op := Op.move (Operand.tmp 24), type := 38, pos := "law.go:94", after := #[{ on := 5, ground := Ground.data }], guard := none }) (v := ?_) rfl (by kernel_rfl) (by kernel_rfl) (by kernel_rfl) (fun _ _ _ h => h) (Or.inl ⟨by rfl, ?_⟩) (by assumption) ?_; rotate_left; · (intro w hSw; (try dsimp only at hSw); skip; go_simp; (first | done | with_reducible rfl)))
        try simp only [Act.put, List.setIfInBounds_toArray, List.set_cons_zero, List.set_cons_succ]
        (refine wpAnyH_take (i := 7) (oi := { dst := some 25, op := Op.extract (Operand.tmp 18) 0, type := 25, pos := "law.go:94", after := #[{ on := 6, ground := Ground.data }], guard := none }) (v := ?_) rfl (by kernel_rfl) (by kernel_rfl) (by kernel_rfl) (fun _ _ _ h => h) (Or.inl ⟨by rfl, ?_⟩) (by assumption) ?_; rotate_left; · (intro w hSw; (try dsimp only at hSw); skip; go_simp; (first | done | with_reducible rfl)))
        try simp only [Act.put, List.setIfInBounds_toArray, List.set_cons_zero, List.set_cons_succ]
        (refine wpAnyH_take (i := 8) (oi := { dst := some 26, op := Op.extract (Operand.tmp 18) 1, type := 32, pos := "law.go:94", after := #[{ on := 6, ground := Ground.data }, { on := 10, ground := Ground.gcOnly Departure.lateStores }], guard := none }) (v := ?_) rfl (by kernel_rfl) (by kernel_rfl) (by kernel_rfl) (fun _ _ _ h => h) (Or.inl ⟨by rfl, ?_⟩) (by assumption) ?_; rotate_left; · (intro w hSw; (try dsimp only at hSw); skip; go_simp; (first | done | with_reducible rfl)))
        try simp only [Act.put, List.setIfInBounds_toArray, List.set_cons_zero, List.set_cons_succ]
        refine wpAnyH_ready (rs := [9]) (by kernel_rfl) (by simp) ?_
        refine (AllReadyH.cons (o := { dst := some 5, op := Op.alloc 25, type := 0, pos := "law.go:94", after := #[], guard := none }) rfl (fun K hK => ?_) AllReadyH.nil)
        go_simp
        refine hK.out _ _ ?_ (fun hHeld => ?_)
        · first
          | exact (by repeat (first | exact HG5.out | exact grew_refl _ | refine grew_drew ?_ | refine grew_trans ?_ (grew_alloc _ _ _)))
        clear hK K
        try simp only [Act.put, List.setIfInBounds_toArray, List.set_cons_zero, List.set_cons_succ]
        refine wpAnyH_ready (rs := [10]) (by kernel_rfl) (by simp) ?_
        refine (AllReadyH.cons (o := { dst := none, op := Op.store 25 (Operand.tmp 5) (Operand.tmp 25), type := 0, pos := "law.go:94", after := #[{ on := 9, ground := Ground.data }, { on := 7, ground := Ground.data }, { on := 5, ground := Ground.chain }, { on := 0, ground := Ground.phase }, { on := 1, ground := Ground.phase }, { on := 2, ground := Ground.phase }, { on := 3, ground := Ground.phase }, { on := 4, ground := Ground.phase }, { on := 5, ground := Ground.phase }, { on := 6, ground := Ground.phase }, { on := 7, ground := Ground.phase }, { on := 8, ground := Ground.textOnly Departure.lateStores }, { on := 9, ground := Ground.phase }], guard := none }) rfl (fun K hK => ?_) AllReadyH.nil)
        first
          | (have HEB := (OwnC.new wr [.int .i64 0, .slice none 0 0, .slice none 0 0] 25 _ rfl).keep (grew_trans (grew_drew (grew_refl _)) HR5.out); have e0 : w5.cell? ⟨wr.heap.size, 0, none⟩ = some (.int .i64 0) := HEB.at 0 _ rfl; have g0 : w5.frozen? ⟨wr.heap.size, 0, none⟩ = false := HEB.fr 0 (by show 0 < 3; omega); have e1 : w5.cell? ⟨wr.heap.size, 1, none⟩ = some (.slice none 0 0) := HEB.at 1 _ rfl; have g1 : w5.frozen? ⟨wr.heap.size, 1, none⟩ = false := HEB.fr 1 (by show 1 < 3; omega); have e2 : w5.cell? ⟨wr.heap.size, 2, none⟩ = some (.slice none 0 0) := HEB.at 2 _ rfl; have g2 : w5.frozen? ⟨wr.heap.size, 2, none⟩ = false := HEB.fr 2 (by show 2 < 3; omega); clear HEB; have HKEEP : Grew wr ((((w5).setCell ⟨wr.heap.size, 0, none⟩ (.int .i64 ex)).setCell ⟨wr.heap.size, 1, none⟩ (.slice B1 el.length d1)).setCell ⟨wr.heap.size, 2, none⟩ (.slice B2 ep.length d2)) := grew_set (grew_set (grew_set (HG5.out) (p := ⟨wr.heap.size, 0, none⟩) (.int .i64 ex) (by show _ ≤ wr.heap.size; omega)) (p := ⟨wr.heap.size, 1, none⟩) (.slice B1 el.length d1) (by show _ ≤ wr.heap.size; omega)) (p := ⟨wr.heap.size, 2, none⟩) (.slice B2 ep.length d2) (by show _ ≤ wr.heap.size; omega))
          | (have HKEEP := grew_trans HG5.out (grew_alloc w5 #[.int .i64 ex, .slice B1 el.length d1, .slice B2 ep.length d2] 25))
        go_simp
        refine hK.out _ _ ?_ (fun hHeld => ?_)
        · first
          | exact HKEEP
        clear hK K
        try simp only [Act.put, List.setIfInBounds_toArray, List.set_cons_zero, List.set_cons_succ]
        (refine wpAnyH_take (i := 11) (oi := { dst := some 6, op := Op.assign (Operand.tmp 26), type := 32, pos := "law.go:94", after := #[{ on := 8, ground := Ground.data }, { on := 10, ground := Ground.chain }, { on := 0, ground := Ground.phase }, { on := 1, ground := Ground.phase }, { on := 2, ground := Ground.phase }, { on := 3, ground := Ground.phase }, { on := 4, ground := Ground.phase }, { on := 5, ground := Ground.phase }, { on := 6, ground := Ground.phase }, { on := 7, ground := Ground.phase }, { on := 8, ground := Ground.phase }, { on := 9, ground := Ground.phase }, { on := 10, ground := Ground.phase }], guard := none }) (v := ?_) rfl (by kernel_rfl) (by kernel_rfl) (by kernel_rfl) (fun _ _ _ h => h) (Or.inl ⟨by rfl, ?_⟩) (by assumption) ?_; rotate_left; · (intro w hSw; (try dsimp only at hSw); skip; go_simp; (first | done | with_reducible rfl)))
        try simp only [Act.put, List.setIfInBounds_toArray, List.set_cons_zero, List.set_cons_succ]
        refine wpAnyH_done (by kernel_rfl) ?_ _
        clear hHeld
        first
          | (have HEB := (OwnC.new wr [.int .i64 0, .slice none 0 0, .slice none 0 0] 25 _ rfl).keep (grew_trans (grew_drew (grew_refl _)) HR5.out); have hlt9 := ((OwnC.new wr [.int .i64 0, .slice none 0 0, .slice none 0 0] 25 _ rfl).keep (grew_drew (grew_refl _))).lt; have hbt : ∀ x, B1 = some x → x.block ≠ wr.heap.size := (fun x hx => Nat.ne_of_gt (Nat.lt_of_lt_of_le hlt9 (HB6.out.t.block x hx).1)); have hbp : ∀ x, B2 = some x → x.block ≠ wr.heap.size := (fun x hx => Nat.ne_of_gt (Nat.lt_of_lt_of_le hlt9 (HB6.out.p.block x hx).1)); have hat : ∀ x, A1 = some x → x.block ≠ wr.heap.size := (fun x hx => by have := (HB.out.t.block x hx).2; omega); have hap : ∀ x, A2 = some x → x.block ≠ wr.heap.size := (fun x hx => by have := (HB.out.p.block x hx).2; omega); have HA : Hid (OwnC ((((w5).setCell ⟨wr.heap.size, 0, none⟩ (.int .i64 ex)).setCell ⟨wr.heap.size, 1, none⟩ (.slice B1 el.length d1)).setCell ⟨wr.heap.size, 2, none⟩ (.slice B2 ep.length d2)) (wr.heap.size) [.int .i64 ex, .slice B1 el.length d1, .slice B2 ep.length d2] ∧ OwnC ((((w5).setCell ⟨wr.heap.size, 0, none⟩ (.int .i64 ex)).setCell ⟨wr.heap.size, 1, none⟩ (.slice B1 el.length d1)).setCell ⟨wr.heap.size, 2, none⟩ (.slice B2 ep.length d2)) (w.heap.size + 1) [.int .i64 nx, .slice A1 lt.length c1, .slice A2 lp.length c2] ∧ OwnC ((((w5).setCell ⟨wr.heap.size, 0, none⟩ (.int .i64 ex)).setCell ⟨wr.heap.size, 1, none⟩ (.slice B1 el.length d1)).setCell ⟨wr.heap.size, 2, none⟩ (.slice B2 ep.length d2)) (w.heap.size) [.int .i64 0, .slice none 0 0, .slice none 0 0] ∧ OwnB ((((w5).setCell ⟨wr.heap.size, 0, none⟩ (.int .i64 ex)).setCell ⟨wr.heap.size, 1, none⟩ (.slice B1 el.length d1)).setCell ⟨wr.heap.size, 2, none⟩ (.slice B2 ep.length d2)) (w.heap.size + 2) (nx, lt, lp) A1 A2 c1 c2 ∧ OwnB ((((w5).setCell ⟨wr.heap.size, 0, none⟩ (.int .i64 ex)).setCell ⟨wr.heap.size, 1, none⟩ (.slice B1 el.length d1)).setCell ⟨wr.heap.size, 2, none⟩ (.slice B2 ep.length d2)) (w.heap.size + 2) (ex, el, ep) B1 B2 d1 d2 ∧ Grew w ((((w5).setCell ⟨wr.heap.size, 0, none⟩ (.int .i64 ex)).setCell ⟨wr.heap.size, 1, none⟩ (.slice B1 el.length d1)).setCell ⟨wr.heap.size, 2, none⟩ (.slice B2 ep.length d2)) ∧ w.heap.size + 1 < wr.heap.size) := ⟨OwnC.set (OwnC.set (OwnC.set (HEB) 0 (.int .i64 ex) (by show 0 < 3; omega)) 1 (.slice B1 el.length d1) (by show 1 < 3; omega)) 2 (.slice B2 ep.length d2) (by show 2 < 3; omega), OwnC.other (OwnC.other (OwnC.other (HX.out.keep HG5.out) ⟨wr.heap.size, 0, none⟩ (.int .i64 ex) (by show wr.heap.size ≠ w.heap.size + 1; omega)) ⟨wr.heap.size, 1, none⟩ (.slice B1 el.length d1) (by show wr.heap.size ≠ w.heap.size + 1; omega)) ⟨wr.heap.size, 2, none⟩ (.slice B2 ep.length d2) (by show wr.heap.size ≠ w.heap.size + 1; omega), OwnC.other (OwnC.other (OwnC.other (HR.out.keep HG5.out) ⟨wr.heap.size, 0, none⟩ (.int .i64 ex) (by show wr.heap.size ≠ w.heap.size; omega)) ⟨wr.heap.size, 1, none⟩ (.slice B1 el.length d1) (by show wr.heap.size ≠ w.heap.size; omega)) ⟨wr.heap.size, 2, none⟩ (.slice B2 ep.length d2) (by show wr.heap.size ≠ w.heap.size; omega), OwnB.setO (OwnB.setO (OwnB.setO (HB.out.keep HG5.out) hat hap wr.heap.size 0 (.int .i64 ex) rfl) hat hap wr.heap.size 1 (.slice B1 el.length d1) rfl) hat hap wr.heap.size 2 (.slice B2 ep.length d2) rfl, OwnB.setO (OwnB.setO (OwnB.setO (HB5.out) hbt hbp wr.heap.size 0 (.int .i64 ex) rfl) hbt hbp wr.heap.size 1 (.slice B1 el.length d1) rfl) hbt hbp wr.heap.size 2 (.slice B2 ep.length d2) rfl, grew_set (grew_set (grew_set (grew_trans HG.out HG5.out) (p := ⟨wr.heap.size, 0, none⟩) (.int .i64 ex) (by show _ ≤ wr.heap.size; omega)) (p := ⟨wr.heap.size, 1, none⟩) (.slice B1 el.length d1) (by show _ ≤ wr.heap.size; omega)) (p := ⟨wr.heap.size, 2, none⟩) (.slice B2 ep.length d2) (by show _ ≤ wr.heap.size; omega), by omega⟩; clear HEB hlt9 hbt hbp hat hap; generalize (((w5).setCell ⟨wr.heap.size, 0, none⟩ (.int .i64 ex)).setCell ⟨wr.heap.size, 1, none⟩ (.slice B1 el.length d1)).setCell ⟨wr.heap.size, 2, none⟩ (.slice B2 ep.length d2) = wT at *; generalize hT : wr.heap.size = T at *)
          | (have hs5 := HG5.out.size; have HA : Hid (OwnC (w5.alloc (.cells #[.int .i64 ex, .slice B1 el.length d1, .slice B2 ep.length d2] 25)) (w5.heap.size) [.int .i64 ex, .slice B1 el.length d1, .slice B2 ep.length d2] ∧ OwnC (w5.alloc (.cells #[.int .i64 ex, .slice B1 el.length d1, .slice B2 ep.length d2] 25)) (w.heap.size + 1) [.int .i64 nx, .slice A1 lt.length c1, .slice A2 lp.length c2] ∧ OwnC (w5.alloc (.cells #[.int .i64 ex, .slice B1 el.length d1, .slice B2 ep.length d2] 25)) (w.heap.size) [.int .i64 0, .slice none 0 0, .slice none 0 0] ∧ OwnB (w5.alloc (.cells #[.int .i64 ex, .slice B1 el.length d1, .slice B2 ep.length d2] 25)) (w.heap.size + 2) (nx, lt, lp) A1 A2 c1 c2 ∧ OwnB (w5.alloc (.cells #[.int .i64 ex, .slice B1 el.length d1, .slice B2 ep.length d2] 25)) (w.heap.size + 2) (ex, el, ep) B1 B2 d1 d2 ∧ Grew w (w5.alloc (.cells #[.int .i64 ex, .slice B1 el.length d1, .slice B2 ep.length d2] 25)) ∧ w.heap.size + 1 < w5.heap.size) := ⟨OwnC.new w5 [.int .i64 ex, .slice B1 el.length d1, .slice B2 ep.length d2] _ _ rfl, (HX.out.keep HG5.out).keep (grew_alloc _ _ _), (HR.out.keep HG5.out).keep (grew_alloc _ _ _), (HB.out.keep HG5.out).keep (grew_alloc _ _ _), HB5.out.keep (grew_alloc _ _ _), grew_trans HG.out (grew_trans HG5.out (grew_alloc _ _ _)), by omega⟩; generalize w5.alloc (.cells #[.int .i64 ex, .slice B1 el.length d1, .slice B2 ep.length d2] 25) = wT at *; generalize hT : w5.heap.size = T at *)
        clear HKEEP
        obtain ⟨a1', a2', a3', a4', a5', a6', a7'⟩ := HA.out
        clear HX HR HB HG HA
        have HX := Lib.hid a2'
        have HR := Lib.hid a3'
        have HB := Lib.hid a4'
        have HQ := Lib.hid a5'
        have HG := Lib.hid a6'
        have HT := Lib.hid a1'
        clear a1' a2' a3' a4' a5' a6'
        apply_assumption
        by_cases he : ee = 0
        · subst he
          have HN2 : Hid (growL (l.take (k + 1)) = (ex, el, ep)) := by show _ = _; rw [HNX.out]; rfl
          have t0 : wT.cell? ⟨T, 0, none⟩ = some (.int .i64 ex) := HT.out.at 0 _ rfl
          have t1 : wT.cell? ⟨T, 1, none⟩ = some (.slice B1 el.length d1) := HT.out.at 1 _ rfl
          have t2 : wT.cell? ⟨T, 2, none⟩ = some (.slice B2 ep.length d2) := HT.out.at 2 _ rfl
          have x0 : wT.cell? ⟨w.heap.size + 1, 0, none⟩ = some (.int .i64 nx) := HX.out.at 0 _ rfl
          have x1 : wT.cell? ⟨w.heap.size + 1, 1, none⟩ = some (.slice A1 lt.length c1) := HX.out.at 1 _ rfl
          have x2 : wT.cell? ⟨w.heap.size + 1, 2, none⟩ = some (.slice A2 lp.length c2) := HX.out.at 2 _ rfl
          have f0 : wT.frozen? ⟨w.heap.size + 1, 0, none⟩ = false := HX.out.fr 0 (by show 0 < 3; omega)
          have f1 : wT.frozen? ⟨w.heap.size + 1, 1, none⟩ = false := HX.out.fr 1 (by show 1 < 3; omega)
          have f2 : wT.frozen? ⟨w.heap.size + 1, 2, none⟩ = false := HX.out.fr 2 (by show 2 < 3; omega)
          have HX2 : Hid (OwnC (putC wT (w.heap.size + 1) 0 [.int .i64 ex, .slice B1 el.length d1, .slice B2 ep.length d2]) (w.heap.size + 1) [.int .i64 ex, .slice B1 el.length d1, .slice B2 ep.length d2]) := HX.out.all [.int .i64 ex, .slice B1 el.length d1, .slice B2 ep.length d2] rfl
          have HR2 : Hid (OwnC (putC wT (w.heap.size + 1) 0 [.int .i64 ex, .slice B1 el.length d1, .slice B2 ep.length d2]) (w.heap.size) [.int .i64 0, .slice none 0 0, .slice none 0 0]) := OwnC.putO (by show w.heap.size + 1 ≠ w.heap.size; omega) [.int .i64 ex, .slice B1 el.length d1, .slice B2 ep.length d2] 0 _ HR.out
          have HB2 : Hid (OwnB (putC wT (w.heap.size + 1) 0 [.int .i64 ex, .slice B1 el.length d1, .slice B2 ep.length d2]) (w.heap.size + 2) (ex, el, ep) B1 B2 d1 d2) := HQ.out.put (b2 := w.heap.size + 1) (by omega) [.int .i64 ex, .slice B1 el.length d1, .slice B2 ep.length d2]
          have HG2 : Hid (Grew w (putC wT (w.heap.size + 1) 0 [.int .i64 ex, .slice B1 el.length d1, .slice B2 ep.length d2])) := grew_put (w := w) (w.heap.size + 1) (by omega) [.int .i64 ex, .slice B1 el.length d1, .slice B2 ep.length d2] 0 _ HG.out
          clear HX HR HB HQ HG
          go_wp2
          go_roundw
          case rel => exact ⟨k + 1, ex, el, ep, B1, B2, d1, d2, by go_num, by omega, by omega, HN2, HX2, HR2, HB2, HG2⟩
          case measure => simp only [intOf]; omega
        · have HN2 : Hid (growL (l.take (k + 1)) = (nx, lt, lp)) := by show _ = _; rw [HNX.out, if_neg he]
          have d1 : (ee == 0) = false := by simpa using he
          go_wp2
          go_roundw
          case rel => exact ⟨k + 1, nx, lt, lp, A1, A2, c1, c2, by go_num, by omega, by omega, HN2, HX, HR, HB, HG⟩
          case measure => simp only [intOf]; omega
      · go_simp
        refine hK.out _ _ ?_ (fun hHeld => ?_)
        · first
          | exact (by repeat (first | exact HG5.out | exact grew_refl _ | refine grew_drew ?_ | refine grew_trans ?_ (grew_alloc _ _ _)))
        clear hK K
        try simp only [Act.put, List.setIfInBounds_toArray, List.set_cons_zero, List.set_cons_succ]
        refine wpAnyH_ready (rs := [5]) (by kernel_rfl) (by simp) ?_
        refine (AllReadyH.cons (o := { dst := some 24, op := Op.call { callee := Callee.value (Operand.func 49), args := #[Operand.tmp 19, Operand.tmp 23], argTypes := #[25, 82] }, type := 38, pos := "law.go:94", after := #[{ on := 0, ground := Ground.data }, { on := 4, ground := Ground.data }], guard := none }) rfl (fun K hK => ?_) AllReadyH.nil)
        go_simp
        (go_at_call 49; (with_reducible refine (CD _ (by repeat (first | exact HG5.out | exact grew_refl _ | refine grew_drew ?_ | refine grew_trans ?_ (grew_alloc _ _ _)))).mono ?_); rintro e w5 ⟨B1, B2, d1, d2, rfl, hb, hg⟩; have HB6 := Lib.hid hb; have HB5 := Lib.hid (hb.mono (b2 := w.heap.size + 2) (Nat.le_trans hsz (show Grew wr _ from (by repeat (first | exact HG5.out | exact grew_refl _ | refine grew_drew ?_ | refine grew_trans ?_ (grew_alloc _ _ _)))).size)); have HR5 := Lib.hid hg; have HG5 : Hid (Grew wr w5) := grew_trans (by repeat (first | exact HG5.out | exact grew_refl _ | refine grew_drew ?_ | refine grew_trans ?_ (grew_alloc _ _ _))) hg; clear hb hg)
        refine hK.out _ _ ?_ (fun hHeld => ?_)
        · first
          | exact (by repeat (first | exact HG5.out | exact grew_refl _ | refine grew_drew ?_ | refine grew_trans ?_ (grew_alloc _ _ _)))
        clear hK K
        try simp only [Act.put, List.setIfInBounds_toArray, List.set_cons_zero, List.set_cons_succ]
        (refine wpAnyH_take (i := 6) (oi := { dst := some 18, op := Op.move (Operand.tmp 24), type := 38, pos := "law.go:94", after := #[{ on := 5, ground := Ground.data }], guard := none }) (v := ?_) rfl (by kernel_rfl) (by kernel_rfl) (by kernel_rfl) (fun _ _ _ h => h) (Or.inl ⟨by rfl, ?_⟩) (by assumption) ?_; rotate_left; · (intro w hSw; (try dsimp only at hSw); skip; go_simp; (first | done | with_reducible rfl)))
        try simp only [Act.put, List.setIfInBounds_toArray, List.set_cons_zero, List.set_cons_succ]
        (refine wpAnyH_take (i := 7) (oi := { dst := some 25, op := Op.extract (Operand.tmp 18) 0, type := 25, pos := "law.go:94", after := #[{ on := 6, ground := Ground.data }], guard := none }) (v := ?_) rfl (by kernel_rfl) (by kernel_rfl) (by kernel_rfl) (fun _ _ _ h => h) (Or.inl ⟨by rfl, ?_⟩) (by assumption) ?_; rotate_left; · (intro w hSw; (try dsimp only at hSw); skip; go_simp; (first | done | with_reducible rfl)))
        try simp only [Act.put, List.setIfInBounds_toArray, List.set_cons_zero, List.set_cons_succ]
        (refine wpAnyH_take (i := 8) (oi := { dst := some 26, op := Op.extract (Operand.tmp 18) 1, type := 32, pos := "law.go:94", after := #[{ on := 6, ground := Ground.data }, { on := 10, ground := Ground.gcOnly Departure.lateStores }], guard := none }) (v := ?_) rfl (by kernel_rfl) (by kernel_rfl) (by kernel_rfl) (fun _ _ _ h => h) (Or.inl ⟨by rfl, ?_⟩) (by assumption) ?_; rotate_left; · (intro w hSw; (try dsimp only at hSw); skip; go_simp; (first | done | with_reducible rfl)))
        try simp only [Act.put, List.setIfInBounds_toArray, List.set_cons_zero, List.set_cons_succ]
        refine wpAnyH_ready (rs := [10]) (by kernel_rfl) (by simp) ?_
        refine (AllReadyH.cons (o := { dst := none, op := Op.store 25 (Operand.tmp 5) (Operand.tmp 25), type := 0, pos := "law.go:94", after := #[{ on := 9, ground := Ground.data }, { on := 7, ground := Ground.data }, { on := 5, ground := Ground.chain }, { on := 0, ground := Ground.phase }, { on := 1, ground := Ground.phase }, { on := 2, ground := Ground.phase }, { on := 3, ground := Ground.phase }, { on := 4, ground := Ground.phase }, { on := 5, ground := Ground.phase }, { on := 6, ground := Ground.phase }, { on := 7, ground := Ground.phase }, { on := 8, ground := Ground.textOnly Departure.lateStores }, { on := 9, ground := Ground.phase }], guard := none }) rfl (fun K hK => ?_) AllReadyH.nil)
        first
          | (have HEB := (OwnC.new wr [.int .i64 0, .slice none 0 0, .slice none 0 0] 25 _ rfl).keep (grew_trans (grew_drew (grew_refl _)) HR5.out); have e0 : w5.cell? ⟨wr.heap.size, 0, none⟩ = some (.int .i64 0) := HEB.at 0 _ rfl; have g0 : w5.frozen? ⟨wr.heap.size, 0, none⟩ = false := HEB.fr 0 (by show 0 < 3; omega); have e1 : w5.cell? ⟨wr.heap.size, 1, none⟩ = some (.slice none 0 0) := HEB.at 1 _ rfl; have g1 : w5.frozen? ⟨wr.heap.size, 1, none⟩ = false := HEB.fr 1 (by show 1 < 3; omega); have e2 : w5.cell? ⟨wr.heap.size, 2, none⟩ = some (.slice none 0 0) := HEB.at 2 _ rfl; have g2 : w5.frozen? ⟨wr.heap.size, 2, none⟩ = false := HEB.fr 2 (by show 2 < 3; omega); clear HEB; have HKEEP : Grew wr ((((w5).setCell ⟨wr.heap.size, 0, none⟩ (.int .i64 ex)).setCell ⟨wr.heap.size, 1, none⟩ (.slice B1 el.length d1)).setCell ⟨wr.heap.size, 2, none⟩ (.slice B2 ep.length d2)) := grew_set (grew_set (grew_set (HG5.out) (p := ⟨wr.heap.size, 0, none⟩) (.int .i64 ex) (by show _ ≤ wr.heap.size; omega)) (p := ⟨wr.heap.size, 1, none⟩) (.slice B1 el.length d1) (by show _ ≤ wr.heap.size; omega)) (p := ⟨wr.heap.size, 2, none⟩) (.slice B2 ep.length d2) (by show _ ≤ wr.heap.size; omega))
          | (have HKEEP := grew_trans HG5.out (grew_alloc w5 #[.int .i64 ex, .slice B1 el.length d1, .slice B2 ep.length d2] 25))
        go_simp
        refine hK.out _ _ ?_ (fun hHeld => ?_)
        · first
          | exact HKEEP
        clear hK K
        try simp only [Act.put, List.setIfInBounds_toArray, List.set_cons_zero, List.set_cons_succ]
        (refine wpAnyH_take (i := 11) (oi := { dst := some 6, op := Op.assign (Operand.tmp 26), type := 32, pos := "law.go:94", after := #[{ on := 8, ground := Ground.data }, { on := 10, ground := Ground.chain }, { on := 0, ground := Ground.phase }, { on := 1, ground := Ground.phase }, { on := 2, ground := Ground.phase }, { on := 3, ground := Ground.phase }, { on := 4, ground := Ground.phase }, { on := 5, ground := Ground.phase }, { on := 6, ground := Ground.phase }, { on := 7, ground := Ground.phase }, { on := 8, ground := Ground.phase }, { on := 9, ground := Ground.phase }, { on := 10, ground := Ground.phase }], guard := none }) (v := ?_) rfl (by kernel_rfl) (by kernel_rfl) (by kernel_rfl) (fun _ _ _ h => h) (Or.inl ⟨by rfl, ?_⟩) (by assumption) ?_; rotate_left; · (intro w hSw; (try dsimp only at hSw); skip; go_simp; (first | done | with_reducible rfl)))
        try simp only [Act.put, List.setIfInBounds_toArray, List.set_cons_zero, List.set_cons_succ]
        refine wpAnyH_done (by kernel_rfl) ?_ _
        clear hHeld
        first
          | (have HEB := (OwnC.new wr [.int .i64 0, .slice none 0 0, .slice none 0 0] 25 _ rfl).keep (grew_trans (grew_drew (grew_refl _)) HR5.out); have hlt9 := ((OwnC.new wr [.int .i64 0, .slice none 0 0, .slice none 0 0] 25 _ rfl).keep (grew_drew (grew_refl _))).lt; have hbt : ∀ x, B1 = some x → x.block ≠ wr.heap.size := (fun x hx => Nat.ne_of_gt (Nat.lt_of_lt_of_le hlt9 (HB6.out.t.block x hx).1)); have hbp : ∀ x, B2 = some x → x.block ≠ wr.heap.size := (fun x hx => Nat.ne_of_gt (Nat.lt_of_lt_of_le hlt9 (HB6.out.p.block x hx).1)); have hat : ∀ x, A1 = some x → x.block ≠ wr.heap.size := (fun x hx => by have := (HB.out.t.block x hx).2; omega); have hap : ∀ x, A2 = some x → x.block ≠ wr.heap.size := (fun x hx => by have := (HB.out.p.block x hx).2; omega); have HA : Hid (OwnC ((((w5).setCell ⟨wr.heap.size, 0, none⟩ (.int .i64 ex)).setCell ⟨wr.heap.size, 1, none⟩ (.slice B1 el.length d1)).setCell ⟨wr.heap.size, 2, none⟩ (.slice B2 ep.length d2)) (wr.heap.size) [.int .i64 ex, .slice B1 el.length d1, .slice B2 ep.length d2] ∧ OwnC ((((w5).setCell ⟨wr.heap.size, 0, none⟩ (.int .i64 ex)).setCell ⟨wr.heap.size, 1, none⟩ (.slice B1 el.length d1)).setCell ⟨wr.heap.size, 2, none⟩ (.slice B2 ep.length d2)) (w.heap.size + 1) [.int .i64 nx, .slice A1 lt.length c1, .slice A2 lp.length c2] ∧ OwnC ((((w5).setCell ⟨wr.heap.size, 0, none⟩ (.int .i64 ex)).setCell ⟨wr.heap.size, 1, none⟩ (.slice B1 el.length d1)).setCell ⟨wr.heap.size, 2, none⟩ (.slice B2 ep.length d2)) (w.heap.size) [.int .i64 0, .slice none 0 0, .slice none 0 0] ∧ OwnB ((((w5).setCell ⟨wr.heap.size, 0, none⟩ (.int .i64 ex)).setCell ⟨wr.heap.size, 1, none⟩ (.slice B1 el.length d1)).setCell ⟨wr.heap.size, 2, none⟩ (.slice B2 ep.length d2)) (w.heap.size + 2) (nx, lt, lp) A1 A2 c1 c2 ∧ OwnB ((((w5).setCell ⟨wr.heap.size, 0, none⟩ (.int .i64 ex)).setCell ⟨wr.heap.size, 1, none⟩ (.slice B1 el.length d1)).setCell ⟨wr.heap.size, 2, none⟩ (.slice B2 ep.length d2)) (w.heap.size + 2) (ex, el, ep) B1 B2 d1 d2 ∧ Grew w ((((w5).setCell ⟨wr.heap.size, 0, none⟩ (.int .i64 ex)).setCell ⟨wr.heap.size, 1, none⟩ (.slice B1 el.length d1)).setCell ⟨wr.heap.size, 2, none⟩ (.slice B2 ep.length d2)) ∧ w.heap.size + 1 < wr.heap.size) := ⟨OwnC.set (OwnC.set (OwnC.set (HEB) 0 (.int .i64 ex) (by show 0 < 3; omega)) 1 (.slice B1 el.length d1) (by show 1 < 3; omega)) 2 (.slice B2 ep.length d2) (by show 2 < 3; omega), OwnC.other (OwnC.other (OwnC.other (HX.out.keep HG5.out) ⟨wr.heap.size, 0, none⟩ (.int .i64 ex) (by show wr.heap.size ≠ w.heap.size + 1; omega)) ⟨wr.heap.size, 1, none⟩ (.slice B1 el.length d1) (by show wr.heap.size ≠ w.heap.size + 1; omega)) ⟨wr.heap.size, 2, none⟩ (.slice B2 ep.length d2) (by show wr.heap.size ≠ w.heap.size + 1; omega), OwnC.other (OwnC.other (OwnC.other (HR.out.keep HG5.out) ⟨wr.heap.size, 0, none⟩ (.int .i64 ex) (by show wr.heap.size ≠ w.heap.size; omega)) ⟨wr.heap.size, 1, none⟩ (.slice B1 el.length d1) (by show wr.heap.size ≠ w.heap.size; omega)) ⟨wr.heap.size, 2, none⟩ (.slice B2 ep.length d2) (by show wr.heap.size ≠ w.heap.size; omega), OwnB.setO (OwnB.setO (OwnB.setO (HB.out.keep HG5.out) hat hap wr.heap.size 0 (.int .i64 ex) rfl) hat hap wr.heap.size 1 (.slice B1 el.length d1) rfl) hat hap wr.heap.size 2 (.slice B2 ep.length d2) rfl, OwnB.setO (OwnB.setO (OwnB.setO (HB5.out) hbt hbp wr.heap.size 0 (.int .i64 ex) rfl) hbt hbp wr.heap.size 1 (.slice B1 el.length d1) rfl) hbt hbp wr.heap.size 2 (.slice B2 ep.length d2) rfl, grew_set (grew_set (grew_set (grew_trans HG.out HG5.out) (p := ⟨wr.heap.size, 0, none⟩) (.int .i64 ex) (by show _ ≤ wr.heap.size; omega)) (p := ⟨wr.heap.size, 1, none⟩) (.slice B1 el.length d1) (by show _ ≤ wr.heap.size; omega)) (p := ⟨wr.heap.size, 2, none⟩) (.slice B2 ep.length d2) (by show _ ≤ wr.heap.size; omega), by omega⟩; clear HEB hlt9 hbt hbp hat hap; generalize (((w5).setCell ⟨wr.heap.size, 0, none⟩ (.int .i64 ex)).setCell ⟨wr.heap.size, 1, none⟩ (.slice B1 el.length d1)).setCell ⟨wr.heap.size, 2, none⟩ (.slice B2 ep.length d2) = wT at *; generalize hT : wr.heap.size = T at *)
          | (have hs5 := HG5.out.size; have HA : Hid (OwnC (w5.alloc (.cells #[.int .i64 ex, .slice B1 el.length d1, .slice B2 ep.length d2] 25)) (w5.heap.size) [.int .i64 ex, .slice B1 el.length d1, .slice B2 ep.length d2] ∧ OwnC (w5.alloc (.cells #[.int .i64 ex, .slice B1 el.length d1, .slice B2 ep.length d2] 25)) (w.heap.size + 1) [.int .i64 nx, .slice A1 lt.length c1, .slice A2 lp.length c2] ∧ OwnC (w5.alloc (.cells #[.int .i64 ex, .slice B1 el.length d1, .slice B2 ep.length d2] 25)) (w.heap.size) [.int .i64 0, .slice none 0 0, .slice none 0 0] ∧ OwnB (w5.alloc (.cells #[.int .i64 ex, .slice B1 el.length d1, .slice B2 ep.length d2] 25)) (w.heap.size + 2) (nx, lt, lp) A1 A2 c1 c2 ∧ OwnB (w5.alloc (.cells #[.int .i64 ex, .slice B1 el.length d1, .slice B2 ep.length d2] 25)) (w.heap.size + 2) (ex, el, ep) B1 B2 d1 d2 ∧ Grew w (w5.alloc (.cells #[.int .i64 ex, .slice B1 el.length d1, .slice B2 ep.length d2] 25)) ∧ w.heap.size + 1 < w5.heap.size) := ⟨OwnC.new w5 [.int .i64 ex, .slice B1 el.length d1, .slice B2 ep.length d2] _ _ rfl, (HX.out.keep HG5.out).keep (grew_alloc _ _ _), (HR.out.keep HG5.out).keep (grew_alloc _ _ _), (HB.out.keep HG5.out).keep (grew_alloc _ _ _), HB5.out.keep (grew_alloc _ _ _), grew_trans HG.out (grew_trans HG5.out (grew_alloc _ _ _)), by omega⟩; generalize w5.alloc (.cells #[.int .i64 ex, .slice B1 el.length d1, .slice B2 ep.length d2] 25) = wT at *; generalize hT : w5.heap.size = T at *)
        clear HKEEP
        obtain ⟨a1', a2', a3', a4', a5', a6', a7'⟩ := HA.out
        clear HX HR HB HG HA
        have HX := Lib.hid a2'
        have HR := Lib.hid a3'
        have HB := Lib.hid a4'
        have HQ := Lib.hid a5'
        have HG := Lib.hid a6'
        have HT := Lib.hid a1'
        clear a1' a2' a3' a4' a5' a6'
        apply_assumption
        by_cases he : ee = 0
        · subst he
          have HN2 : Hid (growL (l.take (k + 1)) = (ex, el, ep)) := by show _ = _; rw [HNX.out]; rfl
          have t0 : wT.cell? ⟨T, 0, none⟩ = some (.int .i64 ex) := HT.out.at 0 _ rfl
          have t1 : wT.cell? ⟨T, 1, none⟩ = some (.slice B1 el.length d1) := HT.out.at 1 _ rfl
          have t2 : wT.cell? ⟨T, 2, none⟩ = some (.slice B2 ep.length d2) := HT.out.at 2 _ rfl
          have x0 : wT.cell? ⟨w.heap.size + 1, 0, none⟩ = some (.int .i64 nx) := HX.out.at 0 _ rfl
          have x1 : wT.cell? ⟨w.heap.size + 1, 1, none⟩ = some (.slice A1 lt.length c1) := HX.out.at 1 _ rfl
          have x2 : wT.cell? ⟨w.heap.size + 1, 2, none⟩ = some (.slice A2 lp.length c2) := HX.out.at 2 _ rfl
          have f0 : wT.frozen? ⟨w.heap.size + 1, 0, none⟩ = false := HX.out.fr 0 (by show 0 < 3; omega)
          have f1 : wT.frozen? ⟨w.heap.size + 1, 1, none⟩ = false := HX.out.fr 1 (by show 1 < 3; omega)
          have f2 : wT.frozen? ⟨w.heap.size + 1, 2, none⟩ = false := HX.out.fr 2 (by show 2 < 3; omega)
          have HX2 : Hid (OwnC (putC wT (w.heap.size + 1) 0 [.int .i64 ex, .slice B1 el.length d1, .slice B2 ep.length d2]) (w.heap.size + 1) [.int .i64 ex, .slice B1 el.length d1, .slice B2 ep.length d2]) := HX.out.all [.int .i64 ex, .slice B1 el.length d1, .slice B2 ep.length d2] rfl
          have HR2 : Hid (OwnC (putC wT (w.heap.size + 1) 0 [.int .i64 ex, .slice B1 el.length d1, .slice B2 ep.length d2]) (w.heap.size) [.int .i64 0, .slice none 0 0, .slice none 0 0]) := OwnC.putO (by show w.heap.size + 1 ≠ w.heap.size; omega) [.int .i64 ex, .slice B1 el.length d1, .slice B2 ep.length d2] 0 _ HR.out
          have HB2 : Hid (OwnB (putC wT (w.heap.size + 1) 0 [.int .i64 ex, .slice B1 el.length d1, .slice B2 ep.length d2]) (w.heap.size + 2) (ex, el, ep) B1 B2 d1 d2) := HQ.out.put (b2 := w.heap.size + 1) (by omega) [.int .i64 ex, .slice B1 el.length d1, .slice B2 ep.length d2]
          have HG2 : Hid (Grew w (putC wT (w.heap.size + 1) 0 [.int .i64 ex, .slice B1 el.length d1, .slice B2 ep.length d2])) := grew_put (w := w) (w.heap.size + 1) (by omega) [.int .i64 ex, .slice B1 el.length d1, .slice B2 ep.length d2] 0 _ HG.out
          clear HX HR HB HQ HG
          go_wp2
          go_roundw
          case rel => exact ⟨k + 1, ex, el, ep, B1, B2, d1, d2, by go_num, by omega, by omega, HN2, HX2, HR2, HB2, HG2⟩
          case measure => simp only [intOf]; omega
        · have HN2 : Hid (growL (l.take (k + 1)) = (nx, lt, lp)) := by show _ = _; rw [HNX.out, if_neg he]
          have d1 : (ee == 0) = false := by simpa using he
          go_wp2
          go_roundw
          case rel => exact ⟨k + 1, nx, lt, lp, A1, A2, c1, c2, by go_num, by omega, by omega, HN2, HX, HR, HB, HG⟩
          case measure => simp only [intOf]; omega
    · have HEND : Hid (growL (l.take 100) = (nx, lt, lp)) := by show _ = _; rw [← HE.out]; exact (grow_take l HL.out hk hlt hk2).symm
      have d1 : ¬ ((k : Int) < (n : Int) ∧ (k : Int) < 100) := by omega
      have x0 : wr.cell? ⟨w.heap.size + 1, 0, none⟩ = some (.int .i64 nx) := HX.out.at 0 _ rfl
      have x1 : wr.cell? ⟨w.heap.size + 1, 1, none⟩ = some (.slice A1 lt.length c1) := HX.out.at 1 _ rfl
      have x2 : wr.cell? ⟨w.heap.size + 1, 2, none⟩ = some (.slice A2 lp.length c2) := HX.out.at 2 _ rfl
      have y0 : wr.cell? ⟨w.heap.size, 0, none⟩ = some (.int .i64 0) := HR.out.at 0 _ rfl
      have y1 : wr.cell? ⟨w.heap.size, 1, none⟩ = some (.slice none 0 0) := HR.out.at 1 _ rfl
      have y2 : wr.cell? ⟨w.heap.size, 2, none⟩ = some (.slice none 0 0) := HR.out.at 2 _ rfl
      have f0 : wr.frozen? ⟨w.heap.size, 0, none⟩ = false := HR.out.fr 0 (by decide)
      have f1 : wr.frozen? ⟨w.heap.size, 1, none⟩ = false := HR.out.fr 1 (by decide)
      have f2 : wr.frozen? ⟨w.heap.size, 2, none⟩ = false := HR.out.fr 2 (by decide)
      have HP := HR.out.all [.int .i64 nx, .slice A1 lt.length c1, .slice A2 lp.length c2] rfl
      have HGP := grew_put (w := w) w.heap.size (Nat.le_refl _) [.int .i64 nx, .slice A1 lt.length c1, .slice A2 lp.length c2] 0 _ HG.out
      have HBP := HB.out.put (b2 := w.heap.size) (by omega) [.int .i64 nx, .slice A1 lt.length c1, .slice A2 lp.length c2]
      rw [HEND.out] at HF
      by_cases hk3 : k < n
      · have i1 : (k : Int) < (n : Int) := by omega
        have i2 : ¬ (k : Int) < 100 := by omega
        go_wp2
        change bodyPost _ _ _ _ _ (putC wr w.heap.size 0 [.int .i64 nx, .slice A1 lt.length c1, .slice A2 lp.length c2])
        clear y0 y1 y2 f0 f1 f2 x0 x1 x2
        generalize putC wr w.heap.size 0 [.int .i64 nx, .slice A1 lt.length c1, .slice A2 lp.length c2] = w9 at *
        have z0 : w9.cell? ⟨w.heap.size, 0, none⟩ = _ := HP.at 0 _ rfl
        have z1 : w9.cell? ⟨w.heap.size, 1, none⟩ = _ := HP.at 1 _ rfl
        have z2 : w9.cell? ⟨w.heap.size, 2, none⟩ = _ := HP.at 2 _ rfl
        refine bodyPost_ret (v := .agg #[.int .i64 nx, .slice A1 lt.length c1, .slice A2 lp.length c2]) (by simp [results, Try.results24, go_sem, z0, z1, z2]) rfl ?_
        exact HF.out _ _ _ _ _ (HBP.mono (by omega)) HGP
      · have i1 : ¬ (k : Int) < (n : Int) := by omega
        go_wp2
        change bodyPost _ _ _ _ _ (putC wr w.heap.size 0 [.int .i64 nx, .slice A1 lt.length c1, .slice A2 lp.length c2])
        clear y0 y1 y2 f0 f1 f2 x0 x1 x2
        generalize putC wr w.heap.size 0 [.int .i64 nx, .slice A1 lt.length c1, .slice A2 lp.length c2] = w9 at *
        have z0 : w9.cell? ⟨w.heap.size, 0, none⟩ = _ := HP.at 0 _ rfl
        have z1 : w9.cell? ⟨w.heap.size, 1, none⟩ = _ := HP.at 1 _ rfl
        have z2 : w9.cell? ⟨w.heap.size, 2, none⟩ = _ := HP.at 2 _ rfl
        refine bodyPost_ret (v := .agg #[.int .i64 nx, .slice A1 lt.length c1, .slice A2 lp.length c2]) (by simp [results, Try.results24, go_sem, z0, z1, z2]) rfl ?_
        exact HF.out _ _ _ _ _ (HBP.mono (by omega)) HGP
end Go.Proofs.Ytkbmiajgmnfpfaa.NumK
