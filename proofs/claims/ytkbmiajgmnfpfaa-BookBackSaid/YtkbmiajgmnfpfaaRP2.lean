/- book.even. -/
import Derived.Test.YtkbmiajgmnfpfaaRA3
import Derived.Test.YtkbmiajgmnfpfaaRA2
import Derived.Test.YtkbmiajgmnfpfaaRP
import Derived.Test.YtkbmiajgmnfpfaaRO
import Derived.Test.YtkbmiajgmnfpfaaRN
import Derived.Deep.RegionHeld3
import Derived.Test.YtkbmiajgmnfpfaaRA
namespace Go.Proofs.Ytkbmiajgmnfpfaa.NumK
open Go.RowKit
set_option linter.unusedVariables false

theorem filter_take_succ {α : Type} (p : α → Bool) (l : List α) (d : α) (j : Nat) (h : j < l.length) : (l.take (j + 1)).filter p = (l.take j).filter p ++ (if p (l.getD j d) then [l.getD j d] else []) := by
  rw [List.take_succ_eq_append_getElem h, List.filter_append, getD_at l d j h]
  congr 1
  cases hp : p l[j] <;> simp [hp]
/-- The quantities of an instrument, so far. -/
def rowI (l : List Po) (k : Nat) : List Int := qtys (l.filter (isI (k : Int)))
theorem rowI_sum (l : List Po) (k : Nat) : (rowI l k).sum = qI l k := rfl
theorem rowI_succ (l : List Po) (j m : Nat) (h : j < l.length) (hm : (l.getD j po0).2.1 = (m : Int)) : ∀ k, upd (rowI (l.take j)) m (rowI (l.take j) m ++ [(l.getD j po0).2.2.1]) k = rowI (l.take (j + 1)) k := by
  intro k
  unfold rowI
  rw [filter_take_succ _ l po0 j h]
  by_cases e : k = m
  · subst e
    rw [upd_at]
    have : isI (k : Int) (l.getD j po0) = true := by unfold isI; rw [hm]; simp
    rw [if_pos this]
    unfold qtys; rw [List.map_append]; rfl
  · rw [upd_ne _ _ e]
    have : isI (k : Int) (l.getD j po0) = false := by unfold isI; rw [hm]; simp; omega
    rw [this]
    simp
theorem rowI_len (l : List Po) (j k : Nat) : (rowI (l.take j) k).length ≤ j := by
  unfold rowI
  rw [qtys_len]
  exact Nat.le_trans (List.length_filter_le _ _) (by rw [List.length_take]; omega)
theorem rowI_money (l : List Po) (k : Nat) (h : ∀ x ∈ l, isMoney x.2.2.1 = true) : (rowI l k).all isMoney = true := by
  rw [List.all_eq_true]
  intro z hz
  unfold rowI qtys at hz
  obtain ⟨x, hx, rfl⟩ := List.mem_map.1 hz
  exact h x (List.mem_filter.1 hx).1
theorem idx9 (v : Nat → Value) (w : World) (k : Nat) (hk : k < 9) : (Instr.index 97 (.agg #[v 0, v 1, v 2, v 3, v 4, v 5, v 6, v 7, v 8]) (.int .i64 (k : Int))).run Try.prog w = .ok (v k) w := by
  have h0 : (Instr.index 97 (.agg #[v 0, v 1, v 2, v 3, v 4, v 5, v 6, v 7, v 8]) (.int .i64 0)).run Try.prog w = .ok (v 0) w := by kernel_rfl
  have h1 : (Instr.index 97 (.agg #[v 0, v 1, v 2, v 3, v 4, v 5, v 6, v 7, v 8]) (.int .i64 1)).run Try.prog w = .ok (v 1) w := by kernel_rfl
  have h2 : (Instr.index 97 (.agg #[v 0, v 1, v 2, v 3, v 4, v 5, v 6, v 7, v 8]) (.int .i64 2)).run Try.prog w = .ok (v 2) w := by kernel_rfl
  have h3 : (Instr.index 97 (.agg #[v 0, v 1, v 2, v 3, v 4, v 5, v 6, v 7, v 8]) (.int .i64 3)).run Try.prog w = .ok (v 3) w := by kernel_rfl
  have h4 : (Instr.index 97 (.agg #[v 0, v 1, v 2, v 3, v 4, v 5, v 6, v 7, v 8]) (.int .i64 4)).run Try.prog w = .ok (v 4) w := by kernel_rfl
  have h5 : (Instr.index 97 (.agg #[v 0, v 1, v 2, v 3, v 4, v 5, v 6, v 7, v 8]) (.int .i64 5)).run Try.prog w = .ok (v 5) w := by kernel_rfl
  have h6 : (Instr.index 97 (.agg #[v 0, v 1, v 2, v 3, v 4, v 5, v 6, v 7, v 8]) (.int .i64 6)).run Try.prog w = .ok (v 6) w := by kernel_rfl
  have h7 : (Instr.index 97 (.agg #[v 0, v 1, v 2, v 3, v 4, v 5, v 6, v 7, v 8]) (.int .i64 7)).run Try.prog w = .ok (v 7) w := by kernel_rfl
  have h8 : (Instr.index 97 (.agg #[v 0, v 1, v 2, v 3, v 4, v 5, v 6, v 7, v 8]) (.int .i64 8)).run Try.prog w = .ok (v 8) w := by kernel_rfl
  have : k = 0 ∨ k = 1 ∨ k = 2 ∨ k = 3 ∨ k = 4 ∨ k = 5 ∨ k = 6 ∨ k = 7 ∨ k = 8 := by omega
  rcases this with rfl | rfl | rfl | rfl | rfl | rfl | rfl | rfl | rfl
  · exact h0
  · exact h1
  · exact h2
  · exact h3
  · exact h4
  · exact h5
  · exact h6
  · exact h7
  · exact h8

theorem Fam.set {κ α : Type} {E : En α} {w : World} {base : Nat} {t : TypeId} {v : κ → Value} {rows : κ → List α} (h : Fam E w base t v rows) (b i : Nat) (u : Value) (hb : b < base) : Fam E (w.setCell ⟨b, i, none⟩ u) base t v rows :=
  ⟨fun k => (h.own k).set b i u hb, h.ne⟩
theorem set9 {w : World} {M m N : Nat} {v : Nat → Value} (h : ∀ k, k < N → w.cell? ⟨M, k, none⟩ = some (v k) ∧ w.frozen? ⟨M, k, none⟩ = false) (hm : m < N) (u : Value) :
    ∀ k, k < N → (w.setCell ⟨M, m, none⟩ u).cell? ⟨M, k, none⟩ = some (upd v m u k) ∧ (w.setCell ⟨M, m, none⟩ u).frozen? ⟨M, k, none⟩ = false := fun k hk => by
  refine ⟨?_, by rw [World.frozen?_setCell]; exact (h k hk).2⟩
  by_cases e : k = m
  · subst e; rw [upd_at]; exact World.cell?_setCell_same _ _ _ (h k hk).1
  · rw [upd_ne _ _ e, World.cell?_setCell_other _ _ _ _ (by intro e2; simp only [Addr.mk.injEq] at e2; omega)]; exact (h k hk).1

set_option maxRecDepth 100000 in
set_option maxHeartbeats 4000000 in
theorem beven_any (A : Option Addr) (n c : Nat) (l : List Po) (w : World) (h : RowE enPo w A n l) (hk : ∀ x ∈ l, okK (keyP x) = true) (hm : ∀ x ∈ l, isMoney x.2.2.1 = true) (hn : n ≤ 100000) :
    Calls Try.prog 42 #[.slice A n c] w fun e w' => e = .returned (.bool (flatI l)) ∧ Grew w w' := by
  have HI := Lib.hid h
  have HL := Lib.hid h.len
  have HK : Hid (∀ j, j < n → ∃ m : Nat, (l.getD j po0).2.1 = (m : Int) ∧ 1 ≤ m ∧ m ≤ 8) := fun j hj => by
    have h1 := (okK_iff _).1 (hk _ (getD_mem l po0 j (by rw [h.len]; exact hj)))
    have h2 : 1 ≤ (l.getD j po0).2.1 ∧ (l.getD j po0).2.1 ≤ 8 := h1.2
    exact ⟨(l.getD j po0).2.1.toNat, by omega, by omega, by omega⟩
  have HMN : Hid (∀ k, (rowI l k).all isMoney = true) := fun k => rowI_money l k hm
  have HNO : Hid (∀ k : Nat, k < 9 → (rowI l k).sum ≠ 0 → flatI l = false) := fun k hk9 hs => by
    rcases Nat.eq_zero_or_pos k with h0 | h0
    · subst h0
      exfalso
      apply hs
      have : l.filter (isI ((0 : Nat) : Int)) = [] := by
        rw [List.filter_eq_nil_iff]
        intro x hx he
        have h1 := ((okK_iff _).1 (hk x hx)).2
        have h2 : x.2.1 = 0 := by unfold isI at he; simpa using he
        have h3 : 1 ≤ x.2.1 := h1.1
        omega
      unfold rowI; rw [this]; rfl
    · rw [← Bool.not_eq_true, flatI_iff]
      intro h2
      exact hs (h2 (k : Int) (by omega) (by omega))
  have HYES : Hid ((∀ k : Nat, k < 9 → (rowI l k).sum = 0) → flatI l = true) := fun h2 => by
    rw [flatI_iff]
    intro m h3 h4
    have := h2 m.toNat (by omega)
    rw [rowI_sum, show ((m.toNat : Nat) : Int) = m by omega] at this
    exact this
  clear h hk hm
  generalize flatI l = R at *
  go_enter Try.func42, Try.ntmps42
  go_wp2
  have HC0 : Hid (OwnC (w.alloc (.cells #[.slice none 0 0, .slice none 0 0, .slice none 0 0, .slice none 0 0, .slice none 0 0, .slice none 0 0, .slice none 0 0, .slice none 0 0, .slice none 0 0] 97)) w.heap.size (List.replicate 9 (.slice none 0 0))) := OwnC.new w (List.replicate 9 (.slice none 0 0)) _ _ rfl
  have HG0 : Hid (Grew w (w.alloc (.cells #[.slice none 0 0, .slice none 0 0, .slice none 0 0, .slice none 0 0, .slice none 0 0, .slice none 0 0, .slice none 0 0, .slice none 0 0, .slice none 0 0] 97))) := grew_alloc _ _ _
  have HMM : Hid (w.heap.size + 1 ≤ (w.alloc (.cells #[.slice none 0 0, .slice none 0 0, .slice none 0 0, .slice none 0 0, .slice none 0 0, .slice none 0 0, .slice none 0 0, .slice none 0 0, .slice none 0 0] 97)).heap.size) := by show _ ≤ _; simp
  generalize w.alloc (.cells #[.slice none 0 0, .slice none 0 0, .slice none 0 0, .slice none 0 0, .slice none 0 0, .slice none 0 0, .slice none 0 0, .slice none 0 0, .slice none 0 0] 97) = w1 at *
  obtain ⟨M, hM⟩ : ∃ M, M = w.heap.size := ⟨_, rfl⟩
  have HMW : Hid (w.heap.size = M) := hM.symm
  rw [← hM] at HC0 HMM ⊢
  clear hM
  go_loopw [12] (fun v12 wr => ∃ (j : Nat) (v : Nat → Value), v12 = .int .i64 j ∧ j ≤ n ∧ Hid (Fam enInt wr (M + 1) 3 v (rowI (l.take j))) ∧ Hid (∀ k, k < 9 → wr.cell? ⟨M, k, none⟩ = some (v k) ∧ wr.frozen? ⟨M, k, none⟩ = false) ∧ Hid (Grew w wr) ∧ Hid (M + 1 ≤ wr.heap.size)) (fun v12 _ => n - (intOf v12).toNat)
  case atStart =>
    refine ⟨0, fun _ => .slice none 0 0, rfl, by omega, (Fam.nil enInt w1 (M + 1) 3).congr fun k => rfl, fun k hk => ⟨?_, ?_⟩, HG0.out, HMM.out⟩
    · rw [HC0.out.c k (by simpa using hk)]
      rw [List.getElem?_replicate, if_pos hk]
    · exact HC0.out.f k (by simpa using hk)
  case round =>
    clear HC0 HG0 HMM
    obtain ⟨j, v, rfl, hj, HF, HC, HG, HZ⟩ := hrel
    by_cases hlt : j < n
    · have hjl : j < l.length := by rw [HL.out]; exact hlt
      obtain ⟨b, o, rfl, hb, hc⟩ := (HI.out.keep HG.out).po hlt
      obtain ⟨a0, a1, a2, a3⟩ := hc j hlt
      obtain ⟨m, hm, m1, m2⟩ := HK.out j hlt
      have HS := Lib.hid (rowI_succ l j m hjl hm)
      have HRL := Lib.hid (rowI_len l j m)
      clear hc hb
      have i0 : (0 : Int) ≤ (j : Int) := by omega
      have i1 : (j : Int) < (n : Int) := by omega
      generalize l.getD j po0 = x at *
      obtain ⟨q1, q2, q3, q4⟩ := x
      dsimp only at a0 a1 a2 a3 hm HS
      subst hm
      have i2 : (0 : Int) ≤ (m : Int) := by omega
      have i3 : (m : Int) < 9 := by omega
      go_wp2
      have HX0 : Hid (OwnC (wr.alloc (.cells #[.int .i64 q1, .int .i64 m, .int .i64 q3, .int .i64 q4] 36)) wr.heap.size [.int .i64 q1, .int .i64 m, .int .i64 q3, .int .i64 q4]) := OwnC.new wr [.int .i64 q1, .int .i64 m, .int .i64 q3, .int .i64 q4] _ _ rfl
      have HGA : Hid (Grew wr (wr.alloc (.cells #[.int .i64 q1, .int .i64 m, .int .i64 q3, .int .i64 q4] 36))) := grew_alloc _ _ _
      generalize wr.alloc (.cells #[.int .i64 q1, .int .i64 m, .int .i64 q3, .int .i64 q4] 36) = w0 at *
      have HF0 := Lib.hid (HF.out.keep HGA.out)
      have HGW := Lib.hid (grew_trans HG.out HGA.out)
      have HN0 : Hid (wr.heap.size < w0.heap.size) := HX0.out.lt
      have HC0 : Hid (∀ k, k < 9 → w0.cell? ⟨M, k, none⟩ = some (v k) ∧ w0.frozen? ⟨M, k, none⟩ = false) := fun k hk => ⟨(grew_cell HGA.out (p := ⟨M, k, none⟩) (by show M < _; have := HZ.out; omega)).trans (HC.out k hk).1, (Below.frozen HGA.out (p := ⟨M, k, none⟩) (by show M < _; have := HZ.out; omega)).trans (HC.out k hk).2⟩
      have HOB : Hid (some wr.heap.size ≠ (v m).ownBlock) := fun e => by have := (HF.out.lt m e.symm).2; omega
      have hM0 : M < w0.heap.size := by have := HZ.out; have := HN0.out; omega
      have d0 := (HC0.out m (by omega)).1
      have HSP : Hid (∀ w', Grew w0 w' → (w'.cell? ⟨wr.heap.size, 1, none⟩ = some (.int .i64 m) ∧ w'.cell? ⟨wr.heap.size, 2, none⟩ = some (.int .i64 q3))) := fun w' g => ⟨(HX0.out.keep g).at 1 _ rfl, (HX0.out.keep g).at 2 _ rfl⟩
      have HMR : Hid (M + 1 ≤ wr.heap.size) := HZ.out
      clear a0 a1 a2 a3 HX0 HF HC HG HGA HZ
      generalize wr.heap.size = N0 at *
      have HM9 : Hid (m < 9) := by show _ < _; omega
      have HSP2 : Hid (∀ wx w', Grew w0 wx → wx.grownBy w' (v m).ownBlock → (w'.cell? ⟨N0, 1, none⟩ = some (.int .i64 m) ∧ w'.cell? ⟨N0, 2, none⟩ = some (.int .i64 q3))) := fun wx w' g hg => by
        have hlt : N0 < wx.heap.size := Nat.lt_of_lt_of_le HN0.out g.size
        exact ⟨(hg.cell_far ⟨N0, 1, none⟩ hlt HOB.out).trans (HSP.out _ g).1, (hg.cell_far ⟨N0, 2, none⟩ hlt HOB.out).trans (HSP.out _ g).2⟩
      have HSP3 : Hid (∀ wx w', Grew w0 wx → Below (M + 1) wx w' → wx.grownBy w' (v m).ownBlock → Below w.heap.size w0 w') := fun wx w' g hb hg => Below.mono (Below.trans (Below.mono g (by have := HMR.out; have := HN0.out; omega)) hb) (by rw [HMW.out]; exact Nat.le_succ _)
      have HSP4 : Hid (∀ wx w', Grew w0 wx → wx.grownBy w' (v m).ownBlock → ∀ k, k < 9 → w'.cell? ⟨M, k, none⟩ = some (v k) ∧ w'.frozen? ⟨M, k, none⟩ = false) := fun wx w' g hg k hk => by
        have h1 := (HF0.out.keep g).far hg (b := M) (Nat.lt_of_lt_of_le (by have := HMR.out; have := HN0.out; omega) g.size) (Nat.lt_succ_self _) k
        exact ⟨h1.1.trans ((grew_cell g (p := ⟨M, k, none⟩) (by show M < _; have := HMR.out; have := HN0.out; omega)).trans (HC0.out k hk).1), h1.2.trans ((Below.frozen g (p := ⟨M, k, none⟩) (by show M < _; have := HMR.out; have := HN0.out; omega)).trans (HC0.out k hk).2)⟩
      refine wp_region_noPanic ?_
      refine wp_region_held_drew (S := fun w' => w'.cell? ⟨N0, 1, none⟩ = some (.int .i64 m) ∧ w'.cell? ⟨N0, 2, none⟩ = some (.int .i64 q3)) (by kernel_rfl) (HSP.out _ (grew_drew (grew_refl _))) (fun hHeld => ?_)
      -- REGION5
      (refine wpAnyH_take (i := 0) (oi := { dst := some 16, op := Op.fieldAddr 36 (Operand.tmp 5) 0, type := 0, pos := "book.go:179", after := #[], guard := none }) (v := ?_) rfl (by kernel_rfl) (by kernel_rfl) (by kernel_rfl) (fun _ _ _ h => h) (Or.inl ⟨by rfl, ?_⟩) (by assumption) ?_; rotate_left; · (intro w hSw; (try dsimp only at hSw); go_simp; (first | done | with_reducible rfl)))
      try simp only [Act.put, List.setIfInBounds_toArray, List.set_cons_zero, List.set_cons_succ]
      (refine wpAnyH_take (i := 1) (oi := { dst := some 17, op := Op.fieldAddr 27 (Operand.tmp 16) 1, type := 0, pos := "book.go:179", after := #[{ on := 0, ground := Ground.data }], guard := none }) (v := ?_) rfl (by kernel_rfl) (by kernel_rfl) (by kernel_rfl) (fun _ _ _ h => h) (Or.inl ⟨by rfl, ?_⟩) (by assumption) ?_; rotate_left; · (intro w hSw; (try dsimp only at hSw); go_simp; (first | done | with_reducible rfl)))
      try simp only [Act.put, List.setIfInBounds_toArray, List.set_cons_zero, List.set_cons_succ]
      (refine wpAnyH_take (i := 2) (oi := { dst := some 18, op := Op.load 3 (Operand.tmp 17), type := 3, pos := "book.go:179", after := #[{ on := 1, ground := Ground.data }], guard := none }) (v := ?_) rfl (by kernel_rfl) (by kernel_rfl) (by kernel_rfl) (fun _ _ _ h => h) (Or.inl ⟨by rfl, ?_⟩) (by assumption) ?_; rotate_left; · (intro w hSw; (try dsimp only at hSw); go_simp; (first | done | with_reducible rfl)))
      try simp only [Act.put, List.setIfInBounds_toArray, List.set_cons_zero, List.set_cons_succ]
      (refine wpAnyH_take (i := 3) (oi := { dst := some 19, op := Op.fieldAddr 36 (Operand.tmp 5) 0, type := 0, pos := "book.go:179", after := #[], guard := none }) (v := ?_) rfl (by kernel_rfl) (by kernel_rfl) (by kernel_rfl) (fun _ _ _ h => h) (Or.inl ⟨by rfl, ?_⟩) (by assumption) ?_; rotate_left; · (intro w hSw; (try dsimp only at hSw); go_simp; (first | done | with_reducible rfl)))
      try simp only [Act.put, List.setIfInBounds_toArray, List.set_cons_zero, List.set_cons_succ]
      (refine wpAnyH_take (i := 4) (oi := { dst := some 20, op := Op.fieldAddr 27 (Operand.tmp 19) 1, type := 0, pos := "book.go:179", after := #[{ on := 3, ground := Ground.data }], guard := none }) (v := ?_) rfl (by kernel_rfl) (by kernel_rfl) (by kernel_rfl) (fun _ _ _ h => h) (Or.inl ⟨by rfl, ?_⟩) (by assumption) ?_; rotate_left; · (intro w hSw; (try dsimp only at hSw); go_simp; (first | done | with_reducible rfl)))
      try simp only [Act.put, List.setIfInBounds_toArray, List.set_cons_zero, List.set_cons_succ]
      (refine wpAnyH_take (i := 5) (oi := { dst := some 21, op := Op.load 3 (Operand.tmp 20), type := 3, pos := "book.go:179", after := #[{ on := 4, ground := Ground.data }], guard := none }) (v := ?_) rfl (by kernel_rfl) (by kernel_rfl) (by kernel_rfl) (fun _ _ _ h => h) (Or.inl ⟨by rfl, ?_⟩) (by assumption) ?_; rotate_left; · (intro w hSw; (try dsimp only at hSw); go_simp; (first | done | with_reducible rfl)))
      try simp only [Act.put, List.setIfInBounds_toArray, List.set_cons_zero, List.set_cons_succ]
      (refine wpAnyH_take (i := 6) (oi := { dst := some 22, op := Op.indexAddr 97 (Operand.tmp 3) (Operand.tmp 21), type := 0, pos := "book.go:179", after := #[{ on := 5, ground := Ground.data }], guard := none }) (v := ?_) rfl (by kernel_rfl) (by kernel_rfl) (by kernel_rfl) (fun _ _ _ h => h) (Or.inl ⟨by rfl, ?_⟩) (by assumption) ?_; rotate_left; · (intro w hSw; (try dsimp only at hSw); go_simp; (first | done | with_reducible rfl)))
      try simp only [Act.put, List.setIfInBounds_toArray, List.set_cons_zero, List.set_cons_succ]
      (refine wpAnyH_take (i := 8) (oi := { dst := some 24, op := Op.fieldAddr 36 (Operand.tmp 5) 1, type := 0, pos := "book.go:179", after := #[], guard := none }) (v := ?_) rfl (by kernel_rfl) (by kernel_rfl) (by kernel_rfl) (fun _ _ _ h => h) (Or.inl ⟨by rfl, ?_⟩) (by assumption) ?_; rotate_left; · (intro w hSw; (try dsimp only at hSw); go_simp; (first | done | with_reducible rfl)))
      try simp only [Act.put, List.setIfInBounds_toArray, List.set_cons_zero, List.set_cons_succ]
      (refine wpAnyH_take (i := 9) (oi := { dst := some 25, op := Op.load 3 (Operand.tmp 24), type := 3, pos := "book.go:179", after := #[{ on := 8, ground := Ground.data }], guard := none }) (v := ?_) rfl (by kernel_rfl) (by kernel_rfl) (by kernel_rfl) (fun _ _ _ h => h) (Or.inl ⟨by rfl, ?_⟩) (by assumption) ?_; rotate_left; · (intro w hSw; (try dsimp only at hSw); go_simp; (first | done | with_reducible rfl)))
      try simp only [Act.put, List.setIfInBounds_toArray, List.set_cons_zero, List.set_cons_succ]
      refine wpAnyH_ready (rs := [7, 10]) (by kernel_rfl) (by simp) ?_
      refine (AllReadyH.cons (o := { dst := some 23, op := Op.load 63 (Operand.tmp 22), type := 63, pos := "book.go:179", after := #[{ on := 6, ground := Ground.data }], guard := none }) rfl (fun K hK => ?_) (AllReadyH.cons (o := { dst := some 26, op := Op.buildSlice 63 1 #[(0, Operand.tmp 25)], type := 63, pos := "book.go:179", after := #[{ on := 9, ground := Ground.data }], guard := none }) rfl (fun K hK => ?_) AllReadyH.nil))
      · go_simp
        refine hK.out _ _ ?_ (fun hHeld => ?_)
        · first
          | exact HSP.out _ (by repeat (first | exact grew_refl _ | refine grew_drew ?_ | refine grew_trans ?_ (grew_alloc _ _ _)))
        clear hK K
        try simp only [Act.put, List.setIfInBounds_toArray, List.set_cons_zero, List.set_cons_succ]
        refine wpAnyH_ready (rs := [10]) (by kernel_rfl) (by simp) ?_
        refine (AllReadyH.cons (o := { dst := some 26, op := Op.buildSlice 63 1 #[(0, Operand.tmp 25)], type := 63, pos := "book.go:179", after := #[{ on := 9, ground := Ground.data }], guard := none }) rfl (fun K hK => ?_) AllReadyH.nil)
        go_simp
        refine hK.out _ _ ?_ (fun hHeld => ?_)
        · first
          | exact HSP.out _ (by repeat (first | exact grew_refl _ | refine grew_drew ?_ | refine grew_trans ?_ (grew_alloc _ _ _)))
        clear hK K
        try simp only [Act.put, List.setIfInBounds_toArray, List.set_cons_zero, List.set_cons_succ]
        refine wpAnyH_ready (rs := [11]) (by kernel_rfl) (by simp) ?_
        refine (AllReadyH.cons (o := { dst := some 27, op := Op.call { callee := Callee.builtin Builtin.append, args := #[Operand.tmp 23, Operand.tmp 26], argTypes := #[63, 63] }, type := 63, pos := "book.go:179", after := #[{ on := 7, ground := Ground.data }, { on := 10, ground := Ground.data }], guard := none }) rfl (fun K hK => ?_) AllReadyH.nil)
        refine step_fam (E := enInt) (t := 3) (base := M + 1) m (by rfl) _ _ 63 (.int .i64 0) 8 (by rfl) Try.underlying63 info_int1 (by rfl) (HF0.out.keep (by repeat (first | exact grew_refl _ | refine grew_drew ?_ | refine grew_trans ?_ (grew_alloc _ _ _)))) (by rfl) _ q3 (by rfl) (by first | exact RowE.one1 enInt _ _ _ _ _ (by simp) rfl | exact (RowE.one1 enInt _ _ _ _ _ (by simp) rfl).keep (grew_drew (grew_refl _))) (by have := HRL.out; unfold maxLen; omega) (by have := HRL.out; omega) (by have := HMR.out; have := HN0.out; simp; omega) ?_
        intro v2 w2 hf hb hg
        have HP2 := HSP2.out _ _ (by repeat (first | exact grew_refl _ | refine grew_drew ?_ | refine grew_trans ?_ (grew_alloc _ _ _))) hg
        obtain ⟨A9, c9, hv9, -⟩ := (hf.own m).form
        rw [upd_at] at hv9
        obtain ⟨A9, n9, c9, rfl⟩ : ∃ A n c, v2 = .slice A n c := ⟨_, _, _, hv9⟩
        clear hv9
        have HF2 := Lib.hid hf
        have HG2 : Hid (Grew w w2) := Below.trans HGW.out (HSP3.out _ _ (by repeat (first | exact grew_refl _ | refine grew_drew ?_ | refine grew_trans ?_ (grew_alloc _ _ _))) hb hg)
        have HC2 := Lib.hid (HSP4.out _ _ (by repeat (first | exact grew_refl _ | refine grew_drew ?_ | refine grew_trans ?_ (grew_alloc _ _ _))) hg)
        have d2 := (HC2.out m HM9.out).1
        have d3 := (HC2.out m HM9.out).2
        have HB2 : Hid (Below w.heap.size w0 w2) := HSP3.out _ _ (by repeat (first | exact grew_refl _ | refine grew_drew ?_ | refine grew_trans ?_ (grew_alloc _ _ _))) hb hg
        clear hf hb hg
        refine hK.out _ _ ?_ (fun hHeld => ?_)
        · first
          | exact HP2
        clear hK K
        try simp only [Act.put, List.setIfInBounds_toArray, List.set_cons_zero, List.set_cons_succ]
        (refine wpAnyH_take (i := 12) (oi := { dst := some 28, op := Op.indexAddr 97 (Operand.tmp 3) (Operand.tmp 18), type := 0, pos := "book.go:179", after := #[{ on := 2, ground := Ground.data }, { on := 0, ground := Ground.phase }, { on := 1, ground := Ground.phase }, { on := 2, ground := Ground.phase }, { on := 3, ground := Ground.phase }, { on := 4, ground := Ground.phase }, { on := 5, ground := Ground.phase }, { on := 6, ground := Ground.phase }, { on := 7, ground := Ground.phase }, { on := 8, ground := Ground.phase }, { on := 9, ground := Ground.phase }, { on := 10, ground := Ground.phase }, { on := 11, ground := Ground.phase }], guard := none }) (v := ?_) rfl (by kernel_rfl) (by kernel_rfl) (by kernel_rfl) (fun _ _ _ h => h) (Or.inl ⟨by rfl, ?_⟩) (by assumption) ?_; rotate_left; · (intro w hSw; (try dsimp only at hSw); go_simp; (first | done | with_reducible rfl)))
        try simp only [Act.put, List.setIfInBounds_toArray, List.set_cons_zero, List.set_cons_succ]
        refine wpAnyH_ready (rs := [13]) (by kernel_rfl) (by simp) ?_
        refine (AllReadyH.cons (o := { dst := none, op := Op.store 63 (Operand.tmp 28) (Operand.tmp 27), type := 0, pos := "book.go:179", after := #[{ on := 12, ground := Ground.data }, { on := 11, ground := Ground.data }, { on := 11, ground := Ground.chain }, { on := 0, ground := Ground.phase }, { on := 1, ground := Ground.phase }, { on := 2, ground := Ground.phase }, { on := 3, ground := Ground.phase }, { on := 4, ground := Ground.phase }, { on := 5, ground := Ground.phase }, { on := 6, ground := Ground.phase }, { on := 7, ground := Ground.phase }, { on := 8, ground := Ground.phase }, { on := 9, ground := Ground.phase }, { on := 10, ground := Ground.phase }, { on := 11, ground := Ground.phase }], guard := none }) rfl (fun K hK => ?_) AllReadyH.nil)
        go_simp
        refine hK.out _ _ ?_ (fun hHeld => ?_)
        · first
          | exact ⟨(World.cell?_setCell_other _ _ _ _ (by intro e; simp only [Addr.mk.injEq] at e; have := HMR.out; omega)).trans HP2.1, (World.cell?_setCell_other _ _ _ _ (by intro e; simp only [Addr.mk.injEq] at e; have := HMR.out; omega)).trans HP2.2⟩
        clear hK K
        try simp only [Act.put, List.setIfInBounds_toArray, List.set_cons_zero, List.set_cons_succ]
        refine wpAnyH_done (by kernel_rfl) ?_ _
        clear hHeld d2 d3
        have HG3 : Hid (Grew w (w2.setCell ⟨M, m, none⟩ (.slice A9 n9 c9))) := grew_set HG2.out _ (by rw [HMW.out]; exact Nat.le_refl _)
        have HC3 := Lib.hid (set9 HC2.out HM9.out (.slice A9 n9 c9))
        have HF3 : Hid (Fam enInt (w2.setCell ⟨M, m, none⟩ (.slice A9 n9 c9)) (M + 1) 3 (upd v m (.slice A9 n9 c9)) (rowI (l.take (j + 1)))) := (HF2.out.congr HS.out).set M m _ (Nat.lt_succ_self _)
        have HZ3 : Hid (M + 1 ≤ (w2.setCell ⟨M, m, none⟩ (.slice A9 n9 c9)).heap.size) := le_set _ _ (Nat.le_trans (by have := HMR.out; have := HN0.out; omega) HB2.out.size)
        clear HF0 HC0 HSP HSP2 HSP3 HSP4 HF2 HC2 HP2 HG2 HB2 HS
        apply_assumption
        go_wp2
        go_roundw
        case rel => exact ⟨j + 1, _, by go_num, by omega, HF3.out, HC3.out, HG3.out, HZ3.out⟩
        case measure => simp only [intOf]; omega
      · go_simp
        refine hK.out _ _ ?_ (fun hHeld => ?_)
        · first
          | exact HSP.out _ (by repeat (first | exact grew_refl _ | refine grew_drew ?_ | refine grew_trans ?_ (grew_alloc _ _ _)))
        clear hK K
        try simp only [Act.put, List.setIfInBounds_toArray, List.set_cons_zero, List.set_cons_succ]
        refine wpAnyH_ready (rs := [7]) (by kernel_rfl) (by simp) ?_
        refine (AllReadyH.cons (o := { dst := some 23, op := Op.load 63 (Operand.tmp 22), type := 63, pos := "book.go:179", after := #[{ on := 6, ground := Ground.data }], guard := none }) rfl (fun K hK => ?_) AllReadyH.nil)
        go_simp
        refine hK.out _ _ ?_ (fun hHeld => ?_)
        · first
          | exact HSP.out _ (by repeat (first | exact grew_refl _ | refine grew_drew ?_ | refine grew_trans ?_ (grew_alloc _ _ _)))
        clear hK K
        try simp only [Act.put, List.setIfInBounds_toArray, List.set_cons_zero, List.set_cons_succ]
        refine wpAnyH_ready (rs := [11]) (by kernel_rfl) (by simp) ?_
        refine (AllReadyH.cons (o := { dst := some 27, op := Op.call { callee := Callee.builtin Builtin.append, args := #[Operand.tmp 23, Operand.tmp 26], argTypes := #[63, 63] }, type := 63, pos := "book.go:179", after := #[{ on := 7, ground := Ground.data }, { on := 10, ground := Ground.data }], guard := none }) rfl (fun K hK => ?_) AllReadyH.nil)
        refine step_fam (E := enInt) (t := 3) (base := M + 1) m (by rfl) _ _ 63 (.int .i64 0) 8 (by rfl) Try.underlying63 info_int1 (by rfl) (HF0.out.keep (by repeat (first | exact grew_refl _ | refine grew_drew ?_ | refine grew_trans ?_ (grew_alloc _ _ _)))) (by rfl) _ q3 (by rfl) (by first | exact RowE.one1 enInt _ _ _ _ _ (by simp) rfl | exact (RowE.one1 enInt _ _ _ _ _ (by simp) rfl).keep (grew_drew (grew_refl _))) (by have := HRL.out; unfold maxLen; omega) (by have := HRL.out; omega) (by have := HMR.out; have := HN0.out; simp; omega) ?_
        intro v2 w2 hf hb hg
        have HP2 := HSP2.out _ _ (by repeat (first | exact grew_refl _ | refine grew_drew ?_ | refine grew_trans ?_ (grew_alloc _ _ _))) hg
        obtain ⟨A9, c9, hv9, -⟩ := (hf.own m).form
        rw [upd_at] at hv9
        obtain ⟨A9, n9, c9, rfl⟩ : ∃ A n c, v2 = .slice A n c := ⟨_, _, _, hv9⟩
        clear hv9
        have HF2 := Lib.hid hf
        have HG2 : Hid (Grew w w2) := Below.trans HGW.out (HSP3.out _ _ (by repeat (first | exact grew_refl _ | refine grew_drew ?_ | refine grew_trans ?_ (grew_alloc _ _ _))) hb hg)
        have HC2 := Lib.hid (HSP4.out _ _ (by repeat (first | exact grew_refl _ | refine grew_drew ?_ | refine grew_trans ?_ (grew_alloc _ _ _))) hg)
        have d2 := (HC2.out m HM9.out).1
        have d3 := (HC2.out m HM9.out).2
        have HB2 : Hid (Below w.heap.size w0 w2) := HSP3.out _ _ (by repeat (first | exact grew_refl _ | refine grew_drew ?_ | refine grew_trans ?_ (grew_alloc _ _ _))) hb hg
        clear hf hb hg
        refine hK.out _ _ ?_ (fun hHeld => ?_)
        · first
          | exact HP2
        clear hK K
        try simp only [Act.put, List.setIfInBounds_toArray, List.set_cons_zero, List.set_cons_succ]
        (refine wpAnyH_take (i := 12) (oi := { dst := some 28, op := Op.indexAddr 97 (Operand.tmp 3) (Operand.tmp 18), type := 0, pos := "book.go:179", after := #[{ on := 2, ground := Ground.data }, { on := 0, ground := Ground.phase }, { on := 1, ground := Ground.phase }, { on := 2, ground := Ground.phase }, { on := 3, ground := Ground.phase }, { on := 4, ground := Ground.phase }, { on := 5, ground := Ground.phase }, { on := 6, ground := Ground.phase }, { on := 7, ground := Ground.phase }, { on := 8, ground := Ground.phase }, { on := 9, ground := Ground.phase }, { on := 10, ground := Ground.phase }, { on := 11, ground := Ground.phase }], guard := none }) (v := ?_) rfl (by kernel_rfl) (by kernel_rfl) (by kernel_rfl) (fun _ _ _ h => h) (Or.inl ⟨by rfl, ?_⟩) (by assumption) ?_; rotate_left; · (intro w hSw; (try dsimp only at hSw); go_simp; (first | done | with_reducible rfl)))
        try simp only [Act.put, List.setIfInBounds_toArray, List.set_cons_zero, List.set_cons_succ]
        refine wpAnyH_ready (rs := [13]) (by kernel_rfl) (by simp) ?_
        refine (AllReadyH.cons (o := { dst := none, op := Op.store 63 (Operand.tmp 28) (Operand.tmp 27), type := 0, pos := "book.go:179", after := #[{ on := 12, ground := Ground.data }, { on := 11, ground := Ground.data }, { on := 11, ground := Ground.chain }, { on := 0, ground := Ground.phase }, { on := 1, ground := Ground.phase }, { on := 2, ground := Ground.phase }, { on := 3, ground := Ground.phase }, { on := 4, ground := Ground.phase }, { on := 5, ground := Ground.phase }, { on := 6, ground := Ground.phase }, { on := 7, ground := Ground.phase }, { on := 8, ground := Ground.phase }, { on := 9, ground := Ground.phase }, { on := 10, ground := Ground.phase }, { on := 11, ground := Ground.phase }], guard := none }) rfl (fun K hK => ?_) AllReadyH.nil)
        go_simp
        refine hK.out _ _ ?_ (fun hHeld => ?_)
        · first
          | exact ⟨(World.cell?_setCell_other _ _ _ _ (by intro e; simp only [Addr.mk.injEq] at e; have := HMR.out; omega)).trans HP2.1, (World.cell?_setCell_other _ _ _ _ (by intro e; simp only [Addr.mk.injEq] at e; have := HMR.out; omega)).trans HP2.2⟩
        clear hK K
        try simp only [Act.put, List.setIfInBounds_toArray, List.set_cons_zero, List.set_cons_succ]
        refine wpAnyH_done (by kernel_rfl) ?_ _
        clear hHeld d2 d3
        have HG3 : Hid (Grew w (w2.setCell ⟨M, m, none⟩ (.slice A9 n9 c9))) := grew_set HG2.out _ (by rw [HMW.out]; exact Nat.le_refl _)
        have HC3 := Lib.hid (set9 HC2.out HM9.out (.slice A9 n9 c9))
        have HF3 : Hid (Fam enInt (w2.setCell ⟨M, m, none⟩ (.slice A9 n9 c9)) (M + 1) 3 (upd v m (.slice A9 n9 c9)) (rowI (l.take (j + 1)))) := (HF2.out.congr HS.out).set M m _ (Nat.lt_succ_self _)
        have HZ3 : Hid (M + 1 ≤ (w2.setCell ⟨M, m, none⟩ (.slice A9 n9 c9)).heap.size) := le_set _ _ (Nat.le_trans (by have := HMR.out; have := HN0.out; omega) HB2.out.size)
        clear HF0 HC0 HSP HSP2 HSP3 HSP4 HF2 HC2 HP2 HG2 HB2 HS
        apply_assumption
        go_wp2
        go_roundw
        case rel => exact ⟨j + 1, _, by go_num, by omega, HF3.out, HC3.out, HG3.out, HZ3.out⟩
        case measure => simp only [intOf]; omega
      -- END5
    · obtain rfl : j = n := by omega
      have ht : l.take j = l := List.take_of_length_le (by rw [HL.out]; exact Nat.le_refl _)
      rw [ht] at HF
      clear ht HK hlt hj
      have c0 := (HC.out 0 (by omega)).1; have c1 := (HC.out 1 (by omega)).1; have c2 := (HC.out 2 (by omega)).1; have c3 := (HC.out 3 (by omega)).1; have c4 := (HC.out 4 (by omega)).1; have c5 := (HC.out 5 (by omega)).1; have c6 := (HC.out 6 (by omega)).1; have c7 := (HC.out 7 (by omega)).1; have c8 := (HC.out 8 (by omega)).1
      go_wp2
      clear c0 c1 c2 c3 c4 c5 c6 c7 c8 HC
      generalize wr = wo at *
      go_loopw [31] (fun v31 wx => ∃ k : Nat, v31 = .int .i64 k ∧ k ≤ 9 ∧ Hid (∀ i, i < k → (rowI l i).sum = 0) ∧ Hid (Grew wo wx)) (fun v31 _ => 9 - (intOf v31).toNat)
      case atStart => exact ⟨0, rfl, by omega, fun i hi => by omega, grew_refl _⟩
      case round =>
        obtain ⟨k, rfl, hk, HZ0, HG2⟩ := hrel
        have HG3 := Lib.hid (grew_trans HG.out HG2.out)
        by_cases hlt : k < 9
        · have ix := fun w => idx9 v w k hlt
          obtain ⟨A3, c3, hv3, hr3, -, -, -⟩ := ((HF.out.own k).keep HG2.out).form
          rw [hv3] at ix
          have hlen : (rowI l k).length ≤ 100000 := by
            unfold rowI; rw [qtys_len]
            exact Nat.le_trans (List.length_filter_le _ _) (by rw [HL.out]; exact hn)
          have CS := fun w' (g : Grew wr w') => sum_any A3 _ c3 (rowI l k) w' (ints_of_E (hr3.keep g)) (by omega)
          rw [sumV_in (HMN.out k), sumE_in (HMN.out k)] at CS
          have HN1 := Lib.hid (HNO.out k hlt)
          have HZ1 : Hid ((rowI l k).sum = 0 → ∀ i, i < k + 1 → (rowI l i).sum = 0) := fun h i hi => by
            rcases Nat.lt_or_ge i k with h1 | h1
            · exact HZ0.out i h1
            · obtain rfl : i = k := by omega
              exact h
          have i1 : (k : Int) < 9 := by omega
          have i0 : (0 : Int) ≤ (k : Int) := by omega
          clear hr3 HZ0 hv3 HNO HYES HMN
          generalize (rowI l k).length = n3 at *
          generalize (rowI l k).sum = s at *
          by_cases hs : s = 0
          · have HZ2 := Lib.hid (HZ1.out hs)
            subst hs
            rw [capV_in (by decide), capE_in (by decide)] at CS
            clear HZ1 HN1
            go_wp2_with (go_at_call 55; ((with_reducible refine (CS _ (grew_refl _)).mono ?_); rintro e w5 ⟨rfl, hg⟩; have HG5 := Lib.hid hg; clear hg))
            go_roundw
            case rel => exact ⟨k + 1, by go_num, by omega, HZ2.out, grew_trans HG2.out HG5.out⟩
            case measure => simp only [intOf]; omega
          · have HF2 := Lib.hid (HN1.out hs)
            clear HZ1 HN1
            by_cases hms : isMoney s = true
            · rw [capV_in hms, capE_in hms] at CS
              have d1 : (s != 0) = true := by simpa using hs
              clear hms hs
              go_wp2_with (go_at_call 55; ((with_reducible refine (CS _ (grew_refl _)).mono ?_); rintro e w5 ⟨rfl, hg⟩; have HG5 := Lib.hid hg; clear hg))
              go_ret
              exact ⟨ret_b HF2.out.symm, grew_trans HG3.out HG5.out⟩
            · rw [Bool.not_eq_true] at hms
              rw [capV_out hms, capE_out hms] at CS
              clear hms hs
              go_wp2_with (go_at_call 55; ((with_reducible refine (CS _ (grew_refl _)).mono ?_); rintro e w5 ⟨rfl, hg⟩; have HG5 := Lib.hid hg; clear hg))
              go_ret
              exact ⟨ret_b HF2.out.symm, grew_trans HG3.out HG5.out⟩
        · obtain rfl : k = 9 := by omega
          have HF2 := Lib.hid (HYES.out HZ0.out)
          clear HYES HNO
          go_wp2
          go_ret
          exact ⟨ret_b HF2.out.symm, HG3.out⟩
end Go.Proofs.Ytkbmiajgmnfpfaa.NumK
namespace Go.Proofs.Ytkbmiajgmnfpfaa.NumK
open Go.RowKit
set_option linter.unusedVariables false

set_option maxRecDepth 100000 in
set_option maxHeartbeats 2000000 in
theorem rnumbers_any (t : Tr) (w : World) : Calls Try.prog 39 #[vTr t] w fun e w' => e = .returned (.bool (numsT t)) ∧ Grew w w' := by
  have HV : Hid (numsT t = (sizedT t && wi t.1.2.1 1 16 && wi t.1.2.2.1 1 16 && !(decide (t.1.2.1 = t.1.2.2.1)) && wi t.1.2.2.2.1 1 8)) := rfl
  have C1 := fun w => rsized_any t w
  generalize numsT t = V at *
  generalize sizedT t = R1 at *
  obtain ⟨⟨q1, q2, q3, q4, q5, q6⟩, q7⟩ := t
  dsimp only at HV
  have C2 := fun w => rwho_any q2 w
  have C3 := fun w => rwho_any q3 w
  have C5 := fun w => rwithin_any q4 1 8 w
  have HX0 : Hid (OwnC (w.alloc (.cells #[.int .i64 q1, .int .i64 q2, .int .i64 q3, .int .i64 q4, .int .i64 q5, .int .i64 q6, .bool q7] 49)) w.heap.size [.int .i64 q1, .int .i64 q2, .int .i64 q3, .int .i64 q4, .int .i64 q5, .int .i64 q6, .bool q7]) := OwnC.new w [.int .i64 q1, .int .i64 q2, .int .i64 q3, .int .i64 q4, .int .i64 q5, .int .i64 q6, .bool q7] _ _ rfl
  generalize wi q2 1 16 = R2 at *
  generalize wi q3 1 16 = R3 at *
  generalize wi q4 1 8 = R5 at *
  have H4 : Hid ((q2 = q3 ∧ decide (q2 = q3) = true) ∨ ((q2 != q3) = true ∧ decide (q2 = q3) = false)) := by
    by_cases h : q2 = q3
    · exact Or.inl ⟨h, decide_eq_true h⟩
    · exact Or.inr ⟨by simpa using h, decide_eq_false h⟩
  generalize hR4 : decide (q2 = q3) = R4 at *
  clear hR4
  dsimp only [vTr] at C1 ⊢
  have H : (R1 = false) ∨ (R1 = true ∧ R2 = false) ∨ (R1 = true ∧ R2 = true ∧ R3 = false) ∨ (R1 = true ∧ R2 = true ∧ R3 = true) := by cases R1 <;> cases R2 <;> cases R3 <;> simp
  rcases H with rfl | ⟨rfl, rfl⟩ | ⟨rfl, rfl, rfl⟩ | ⟨rfl, rfl, rfl⟩
  · have HF : Hid (V = false) := by show _ = _; rw [HV.out]; rfl
    clear HV H4
    go_enter Try.func39, Try.ntmps39
    go_wp2_with (go_at_call 63; ((with_reducible refine (C1 _).mono ?_); rintro e w1 ⟨rfl, hg⟩; have HG := Lib.hid (own_back hg); clear hg))
    go_ret
    exact ⟨ret_b HF.out.symm, HG.out⟩
  · have HF : Hid (V = false) := by show _ = _; rw [HV.out]; rfl
    clear HV H4
    go_enter Try.func39, Try.ntmps39
    go_wp2_with (first
      | (go_at_call 63; ((with_reducible refine (C1 _).mono ?_); rintro e w1 ⟨rfl, hg⟩; have HG := Lib.hid (own_back hg); have HX := Lib.hid (HX0.out.keep hg); have x1 : w1.cell? ⟨w.heap.size, 1, none⟩ = some (.int .i64 q2) := HX.out.at 1 _ rfl; clear hg))
      | (go_at_call 62; ((with_reducible refine (C2 _).mono ?_); rintro e w2 ⟨rfl, rfl⟩)))
    go_ret
    exact ⟨ret_b HF.out.symm, HG.out⟩
  · have HF : Hid (V = false) := by show _ = _; rw [HV.out]; rfl
    clear HV H4
    go_enter Try.func39, Try.ntmps39
    go_wp2_with (first
      | (go_at_call 63; ((with_reducible refine (C1 _).mono ?_); rintro e w1 ⟨rfl, hg⟩; have HG := Lib.hid (own_back hg); have HX := Lib.hid (HX0.out.keep hg); have x1 : w1.cell? ⟨w.heap.size, 1, none⟩ = some (.int .i64 q2) := HX.out.at 1 _ rfl; have x2 : w1.cell? ⟨w.heap.size, 2, none⟩ = some (.int .i64 q3) := HX.out.at 2 _ rfl; clear hg))
      | (go_at_call 62; ((with_reducible refine (C2 _).mono ?_); rintro e w2 ⟨rfl, rfl⟩))
      | (go_at_call 62; ((with_reducible refine (C3 _).mono ?_); rintro e w2 ⟨rfl, rfl⟩)))
    go_ret
    exact ⟨ret_b HF.out.symm, HG.out⟩
  · rcases H4.out with ⟨rfl, rfl⟩ | ⟨d4, rfl⟩
    · have HF : Hid (V = false) := by show _ = _; rw [HV.out]; rfl
      clear HV H4
      go_enter Try.func39, Try.ntmps39
      go_wp2_with (first
        | (go_at_call 63; ((with_reducible refine (C1 _).mono ?_); rintro e w1 ⟨rfl, hg⟩; have HG := Lib.hid (own_back hg); have HX := Lib.hid (HX0.out.keep hg); have x1 : w1.cell? ⟨w.heap.size, 1, none⟩ = some (.int .i64 q2) := HX.out.at 1 _ rfl; have x2 : w1.cell? ⟨w.heap.size, 2, none⟩ = some (.int .i64 q2) := HX.out.at 2 _ rfl; clear hg))
        | (go_at_call 62; ((with_reducible refine (C2 _).mono ?_); rintro e w2 ⟨rfl, rfl⟩)))
      go_ret
      exact ⟨ret_b HF.out.symm, HG.out⟩
    · have HF : Hid (V = R5) := by show _ = _; rw [HV.out]; rfl
      clear HV H4
      go_enter Try.func39, Try.ntmps39
      go_wp2_with (first
        | (go_at_call 63; ((with_reducible refine (C1 _).mono ?_); rintro e w1 ⟨rfl, hg⟩; have HG := Lib.hid (own_back hg); have HX := Lib.hid (HX0.out.keep hg); have x1 : w1.cell? ⟨w.heap.size, 1, none⟩ = some (.int .i64 q2) := HX.out.at 1 _ rfl; have x2 : w1.cell? ⟨w.heap.size, 2, none⟩ = some (.int .i64 q3) := HX.out.at 2 _ rfl; have x3 : w1.cell? ⟨w.heap.size, 3, none⟩ = some (.int .i64 q4) := HX.out.at 3 _ rfl; clear hg))
        | (go_at_call 62; ((with_reducible refine (C2 _).mono ?_); rintro e w2 ⟨rfl, rfl⟩))
        | (go_at_call 62; ((with_reducible refine (C3 _).mono ?_); rintro e w2 ⟨rfl, rfl⟩))
        | (go_at_call 36; ((with_reducible refine (C5 _).mono ?_); rintro e w2 ⟨rfl, rfl⟩)))
      go_ret
      exact ⟨ret_b HF.out.symm, HG.out⟩
end Go.Proofs.Ytkbmiajgmnfpfaa.NumK
namespace Go.Proofs.Ytkbmiajgmnfpfaa.NumK
open Go.RowKit
set_option linter.unusedVariables false

theorem okPo_alt (x : Po) : okPo x = (okK (x.1, x.2.1) && wi x.2.2.1 (-1099511627776) 1099511627776 && isMoney x.2.2.2 && !(noneP x.2.2.1 x.2.2.2)) := rfl
theorem ok_klt {a b : Po} (ha : okPo a = true) (hb : okPo b = true) : kltB (a.1, a.2.1) (b.1, b.2.1) = decide (noPo a < noPo b) :=
  klt_no (a := keyP a) (b := keyP b) ((okPo_iff a).1 ha).1 ((okPo_iff b).1 hb).1
theorem steps_ok {l : List Po} {j : Nat} (h : (List.range j).all (stepOK okPo noPo po0 l) = true) {i : Nat} (hi : i < j) : okPo (l.getD i po0) = true := by
  have := (List.all_eq_true.1 h) i (List.mem_range.2 hi)
  unfold stepOK at this
  rw [Bool.and_eq_true] at this
  exact this.1
theorem steps_all {l : List Po} (h : (List.range l.length).all (stepOK okPo noPo po0 l) = true) : ∀ x ∈ l, okPo x = true := fun x hx => by
  obtain ⟨i, hi, rfl⟩ := List.getElem_of_mem hx
  rw [← getD_at l po0 i hi]
  exact steps_ok h hi

set_option maxRecDepth 100000 in
set_option maxHeartbeats 4000000 in
theorem rightPoss_any (A : Option Addr) (n c : Nat) (l : List Po) (w : World) (h : RowE enPo w A n l) (hn : n ≤ 100000) :
    Calls Try.prog 34 #[.slice A n c] w fun e w' => e = .returned (.bool (rightPs l)) ∧ Grew w w' := by
  have HI := Lib.hid h
  have HL := Lib.hid h.len
  have HR : Hid (rightPs l = ((List.range n).all (stepOK okPo noPo po0 l) && flatI l)) := by show _ = _; rw [← h.len]; rfl
  have HEV : Hid ((List.range n).all (stepOK okPo noPo po0 l) = true → ∀ w', Grew w w' → Calls Try.prog 42 #[.slice A n c] w' fun e w'' => e = .returned (.bool (flatI l)) ∧ Grew w' w'') := fun hs w' g => by
    have h2 : ∀ x ∈ l, okPo x = true := steps_all (by rw [h.len]; exact hs)
    exact beven_any A n c l w' (h.keep g) (fun x hx => ((okPo_iff x).1 (h2 x hx)).1) (fun x hx => (isMoney_iff _).2 (by have := (okQ_iff _).1 ((okPo_iff x).1 (h2 x hx)).2.1; omega)) hn
  generalize flatI l = FL at *
  generalize rightPs l = R at *
  clear h
  go_enter Try.func34, Try.ntmps34
  go_wp2
  go_loopw [7] (fun v wr => ∃ j : Nat, v = .int .i64 j ∧ j ≤ n ∧ Hid ((List.range j).all (stepOK okPo noPo po0 l) = true) ∧ Hid (Grew w wr)) (fun v _ => n - (intOf v).toNat)
  case atStart => exact ⟨0, rfl, by omega, rfl, grew_refl _⟩
  case round =>
    obtain ⟨j, rfl, hj, HM, HG⟩ := hrel
    by_cases hlt : j < n
    · obtain ⟨b, o, rfl, hb, hc⟩ := (HI.out.keep HG.out).po hlt
      have HN := Lib.hid (range_all_no (stepOK okPo noPo po0 l) j n hlt)
      have HY := Lib.hid (range_all_succ (stepOK okPo noPo po0 l) j)
      have HST : Hid (stepOK okPo noPo po0 l j = (okPo (l.getD j po0) && (decide (j = 0) || decide (noPo (l.getD (j - 1) po0) < noPo (l.getD j po0))))) := rfl
      have HKL : Hid (0 < j → okPo (l.getD j po0) = true → kltB ((l.getD (j - 1) po0).1, (l.getD (j - 1) po0).2.1) ((l.getD j po0).1, (l.getD j po0).2.1) = decide (noPo (l.getD (j - 1) po0) < noPo (l.getD j po0))) := fun h0 hx => ok_klt (steps_ok HM.out (by omega)) hx
      have HOK := Lib.hid (okPo_alt (l.getD j po0))
      have CE := fun w => empty_any (l.getD j po0) w
      obtain ⟨a0, a1, a2, a3⟩ := hc j hlt
      have HPB : Hid (0 < j → CPo wr b (o + (j - 1) * 4) (l.getD (j - 1) po0)) := fun h0 => hc (j - 1) (by omega)
      have HB := Lib.hid hb
      clear hc hb
      have i0 : (0 : Int) ≤ (j : Int) := by omega
      have i1 : (j : Int) < (n : Int) := by omega
      generalize stepOK okPo noPo po0 l j = st at *
      generalize decide (noPo (l.getD (j - 1) po0) < noPo (l.getD j po0)) = lt at *
      generalize okPo (l.getD j po0) = ok at *
      generalize l.getD j po0 = x at *
      generalize l.getD (j - 1) po0 = p at *
      obtain ⟨q1, q2, q3, q4⟩ := x
      dsimp only at a0 a1 a2 a3 HKL HOK CE
      dsimp only [vPo] at CE
      have C1 := fun w => permitted_any q1 q2 w
      have C2 := fun w => bwithin_any q3 (-1099511627776) 1099511627776 w
      have C3 := fun w => right_any (some ⟨w.heap.size, 0, none⟩) 1 1 [q4] (w.alloc (.cells #[.int .i64 q4] 3)) (ints1 w q4 _) (by decide)
      simp only [List.all_cons, List.all_nil, Bool.and_true] at C3
      dsimp only [vKy] at C1
      generalize okK (q1, q2) = R1 at *
      generalize wi q3 (-1099511627776) 1099511627776 = R2 at *
      generalize isMoney q4 = R3 at *
      generalize noneP q3 q4 = R4 at *
      have HX0 : Hid (OwnC (wr.alloc (.cells #[.int .i64 q1, .int .i64 q2, .int .i64 q3, .int .i64 q4] 36)) wr.heap.size [.int .i64 q1, .int .i64 q2, .int .i64 q3, .int .i64 q4]) := OwnC.new wr [.int .i64 q1, .int .i64 q2, .int .i64 q3, .int .i64 q4] _ _ rfl
      have H : (R1 = false) ∨ (R1 = true ∧ R2 = false) ∨ (R1 = true ∧ R2 = true ∧ R3 = false) ∨ (R1 = true ∧ R2 = true ∧ R3 = true ∧ R4 = true) ∨ (R1 = true ∧ R2 = true ∧ R3 = true ∧ R4 = false) := by cases R1 <;> cases R2 <;> cases R3 <;> cases R4 <;> simp
      rcases H with rfl | ⟨rfl, rfl⟩ | ⟨rfl, rfl, rfl⟩ | ⟨rfl, rfl, rfl, rfl⟩ | ⟨rfl, rfl, rfl, rfl⟩
      · have HF : Hid (R = false) := by show _ = _; rw [HR.out, ← HN.out (by rw [HST.out, HOK.out]; rfl)]; rfl
        clear HN HY HST HKL HOK HPB HM HR HEV
        go_wp2_with (go_at_call 59; ((with_reducible refine (C1 _).mono ?_); rintro e w1 ⟨rfl, hg⟩; have HG1 := Lib.hid (grew_trans HG.out (own_back hg)); clear hg))
        go_ret
        exact ⟨ret_b HF.out.symm, HG1.out⟩
      · have HF : Hid (R = false) := by show _ = _; rw [HR.out, ← HN.out (by rw [HST.out, HOK.out]; rfl)]; rfl
        clear HN HY HST HKL HOK HPB HM HR HEV
        go_wp2_with (first
          | (go_at_call 59; ((with_reducible refine (C1 _).mono ?_); rintro e w1 ⟨rfl, hg⟩; have HG1 := Lib.hid (grew_trans HG.out (own_back hg)); have x2 : w1.cell? ⟨wr.heap.size, 2, none⟩ = some (.int .i64 q3) := (HX0.out.keep hg).at 2 _ rfl; clear hg))
          | (go_at_call 33; ((with_reducible refine (C2 _).mono ?_); rintro e w2 ⟨rfl, rfl⟩)))
        go_ret
        exact ⟨ret_b HF.out.symm, HG1.out⟩
      · have HF : Hid (R = false) := by show _ = _; rw [HR.out, ← HN.out (by rw [HST.out, HOK.out]; rfl)]; rfl
        clear HN HY HST HKL HOK HPB HM HR HEV
        go_wp2_with (first
          | (go_at_call 59; ((with_reducible refine (C1 _).mono ?_); rintro e w1 ⟨rfl, hg⟩; have HG1 := Lib.hid (grew_trans HG.out (own_back hg)); have x2 : w1.cell? ⟨wr.heap.size, 2, none⟩ = some (.int .i64 q3) := (HX0.out.keep hg).at 2 _ rfl; have x3 : w1.cell? ⟨wr.heap.size, 3, none⟩ = some (.int .i64 q4) := (HX0.out.keep hg).at 3 _ rfl; clear hg))
          | (go_at_call 33; ((with_reducible refine (C2 _).mono ?_); rintro e w2 ⟨rfl, rfl⟩))
          | (go_at_call 54; ((with_reducible refine (C3 _).mono ?_); rintro e w2 ⟨rfl, rfl⟩)))
        go_ret
        exact ⟨ret_b HF.out.symm, grew_trans HG1.out (grew_alloc _ _ _)⟩
      · have HF : Hid (R = false) := by show _ = _; rw [HR.out, ← HN.out (by rw [HST.out, HOK.out]; rfl)]; rfl
        clear HN HY HST HKL HOK HPB HM HR HEV
        go_wp2_with (first
          | (go_at_call 59; ((with_reducible refine (C1 _).mono ?_); rintro e w1 ⟨rfl, hg⟩; have HG1 := Lib.hid (grew_trans HG.out (own_back hg)); have HX1 := Lib.hid (HX0.out.keep hg); have hN1 := HX1.out.lt; have x0 : w1.cell? ⟨wr.heap.size, 0, none⟩ = some (.int .i64 q1) := HX1.out.at 0 _ rfl; have x1 : w1.cell? ⟨wr.heap.size, 1, none⟩ = some (.int .i64 q2) := HX1.out.at 1 _ rfl; have x2 : w1.cell? ⟨wr.heap.size, 2, none⟩ = some (.int .i64 q3) := HX1.out.at 2 _ rfl; have x3 : w1.cell? ⟨wr.heap.size, 3, none⟩ = some (.int .i64 q4) := HX1.out.at 3 _ rfl; clear hg))
          | (go_at_call 33; ((with_reducible refine (C2 _).mono ?_); rintro e w2 ⟨rfl, rfl⟩))
          | (go_at_call 54; ((with_reducible refine (C3 _).mono ?_); rintro e w2 ⟨rfl, rfl⟩))
          | (go_at_call 60; ((with_reducible refine (CE _).mono ?_); rintro e w3 ⟨rfl, hg⟩; have HG3 := Lib.hid (grew_trans (grew_trans HG1.out (grew_alloc _ _ _)) hg); clear hg)))
        go_ret
        exact ⟨ret_b HF.out.symm, HG3.out⟩
      · have hok : ok = true := HOK.out
        subst hok
        have HKL2 : Hid (0 < j → kltB (p.1, p.2.1) (q1, q2) = lt) := fun h0 => HKL.out h0 rfl
        clear HOK HKL
        go_upto_region 6 with (first
          | (go_at_call 59; ((with_reducible refine (C1 _).mono ?_); rintro e w1 ⟨rfl, hg⟩; have HG1 := Lib.hid (grew_trans HG.out (own_back hg)); have HX1 := Lib.hid (HX0.out.keep hg); have hN1 := HX1.out.lt; have x0 : w1.cell? ⟨wr.heap.size, 0, none⟩ = some (.int .i64 q1) := HX1.out.at 0 _ rfl; have x1 : w1.cell? ⟨wr.heap.size, 1, none⟩ = some (.int .i64 q2) := HX1.out.at 1 _ rfl; have x2 : w1.cell? ⟨wr.heap.size, 2, none⟩ = some (.int .i64 q3) := HX1.out.at 2 _ rfl; have x3 : w1.cell? ⟨wr.heap.size, 3, none⟩ = some (.int .i64 q4) := HX1.out.at 3 _ rfl; have HGB := Lib.hid (own_back hg); clear hg))
          | (go_at_call 33; ((with_reducible refine (C2 _).mono ?_); rintro e w2 ⟨rfl, rfl⟩))
          | (go_at_call 54; ((with_reducible refine (C3 _).mono ?_); rintro e w2 ⟨rfl, rfl⟩))
          | (go_at_call 60; ((with_reducible refine (CE _).mono ?_); rintro e w3 ⟨rfl, hg⟩; have HG3 := Lib.hid (grew_trans (grew_trans HG1.out (grew_alloc _ _ _)) hg); have HX3 := Lib.hid ((HX1.out.keep (grew_alloc _ _ _)).keep hg); have HGC := Lib.hid (grew_trans (grew_trans HGB.out (grew_alloc _ _ _)) hg); clear hg x0 x1 x2 x3 hN1)))
        clear C1 C2 C3 CE HG1 HX1 HGB HX0
        have y0 := grew_every (w := w3) (S := fun w' => w'.cell? ⟨wr.heap.size, 0, none⟩ = some (.int .i64 q1)) (fun w' g => (HX3.out.keep g).at 0 _ rfl)
        have y1 := grew_every (w := w3) (S := fun w' => w'.cell? ⟨wr.heap.size, 1, none⟩ = some (.int .i64 q2)) (fun w' g => (HX3.out.keep g).at 1 _ rfl)
        cases j with
        | zero =>
          have HM2 := Lib.hid (HY.out.trans (by rw [HST.out]))
          clear HN HY HST HM HPB HKL2
          refine wp_region_grew (by kernel_rfl) (by kernel_rfl) ?_
          repeat (go_big_quiet_step (fail))
          refine wpQuiet_nil ?_
          intro w5 hw'
          have HG5 := Lib.hid (grew_of hw')
          clear hw' y0 y1
          go_wp2
          go_roundw
          case rel => exact ⟨1, by go_num, by omega, HM2.out, grew_trans HG3.out HG5.out⟩
          case measure => simp only [intOf]; omega
        | succ i =>
          obtain ⟨e0, e1, e2, e3⟩ := HPB.out (by omega)
          rw [show i + 1 - 1 = i from rfl] at e0 e1
          have HST2 : Hid (st = lt) := by show _ = _; rw [HST.out]; simp
          have q5 : IntKind.i64.wrap (((i + 1 : Nat) : Int) - 1) = (i : Int) := by rw [IntKind.wrap_i64]; omega
          have q6 : (0 : Int) < ((i + 1 : Nat) : Int) := by omega
          have q7 : (i : Int) < (n : Int) := by omega
          have q8 : (0 : Int) ≤ (i : Int) := by omega
          obtain ⟨p1, p2, p3, p4⟩ := p
          dsimp only at e0 e1
          have HKL3 := Lib.hid (HKL2.out (by omega))
          dsimp only at HKL3
          have CL := fun w' (g : Grew w3 w') => less_any p1 p2 q1 q2 w'
          dsimp only [vKy] at CL
          rw [HKL3.out] at CL
          have z0 := grew_every (w := w3) (S := fun w' => w'.cell? ⟨b, o + i * 4, none⟩ = some (.int .i64 p1)) (fun w' g => (grew_cell (grew_trans HGC.out g) (p := ⟨b, _, none⟩) HB.out).trans e0)
          have z1 := grew_every (w := w3) (S := fun w' => w'.cell? ⟨b, o + i * 4 + 1, none⟩ = some (.int .i64 p2)) (fun w' g => (grew_cell (grew_trans HGC.out g) (p := ⟨b, _, none⟩) HB.out).trans e1)
          clear HPB HST HKL2 HKL3 e0 e1 e2 e3
          cases lt
          · have HF : Hid (R = false) := by show _ = _; rw [HR.out, ← HN.out (by rw [HST2.out])]; rfl
            clear HN HY HST2 HM HR
            refine wp_region_grew (by kernel_rfl) (by kernel_rfl) ?_
            repeat (go_big_quiet_step (with_reducible exact calls_every CL))
            refine wpQuiet_nil ?_
            intro w5 hw'
            have HG5 := Lib.hid (grew_of hw')
            clear hw' y0 y1 z0 z1
            go_wp2
            go_ret
            exact ⟨ret_b HF.out.symm, grew_trans HG3.out HG5.out⟩
          · have HM2 := Lib.hid (HY.out.trans (by rw [HST2.out, HM.out]))
            clear HN HY HST2 HM
            refine wp_region_grew (by kernel_rfl) (by kernel_rfl) ?_
            repeat (go_big_quiet_step (with_reducible exact calls_every CL))
            refine wpQuiet_nil ?_
            intro w5 hw'
            have HG5 := Lib.hid (grew_of hw')
            clear hw' y0 y1 z0 z1
            go_wp2
            go_roundw
            case rel => exact ⟨i + 1 + 1, by go_num, by omega, HM2.out, grew_trans HG3.out HG5.out⟩
            case measure => simp only [intOf]; omega
    · obtain rfl : j = n := by omega
      have CV := HEV.out HM.out
      have HF : Hid (R = FL) := by show _ = _; rw [HR.out, HM.out]; rfl
      clear HEV HR HM
      go_wp2_with (go_at_call 42; ((with_reducible refine (CV _ HG.out).mono ?_); rintro e w1 ⟨rfl, hg⟩; have HG1 := Lib.hid (grew_trans HG.out hg); clear hg))
      go_ret
      exact ⟨ret_b HF.out.symm, HG1.out⟩
end Go.Proofs.Ytkbmiajgmnfpfaa.NumK
namespace Go.Proofs.Ytkbmiajgmnfpfaa.NumK
open Go.RowKit
set_option linter.unusedVariables false

theorem calls_same {P : Program} {f : FuncId} {args : Array Value} {w : World} {v : Value} (h : Calls P f args w fun e w' => e = .returned v ∧ w = w') : Calls P f args w fun e w' => e = .returned v ∧ Grew w w' :=
  h.mono fun e w' ⟨he, hw⟩ => ⟨he, hw ▸ grew_refl _⟩

set_option maxRecDepth 100000 in
set_option maxHeartbeats 4000000 in
theorem rightTrades_any (A : Option Addr) (n c : Nat) (l : List Tr) (next : Int) (w : World) (h : RowE enTr w A n l) (hn : n ≤ 100000) :
    Calls Try.prog 35 #[.slice A n c, .int .i64 next] w fun e w' => e = .returned (.bool (rightTs next l)) ∧ Grew w w' := by
  have HI := Lib.hid h
  have HL := Lib.hid h.len
  have HR : Hid (rightTs next l = ((List.range n).all (stepOK (okTr next) noTr tr0 l) && decide (n ≤ 128))) := by show _ = _; rw [← h.len]; rfl
  generalize rightTs next l = R at *
  clear h
  go_enter Try.func35, Try.ntmps35
  go_wp2
  go_loopw [9] (fun v wr => ∃ j : Nat, v = .int .i64 j ∧ j ≤ n ∧ Hid ((List.range j).all (stepOK (okTr next) noTr tr0 l) = true) ∧ Hid (Grew w wr)) (fun v _ => n - (intOf v).toNat)
  case atStart => exact ⟨0, rfl, by omega, rfl, grew_refl _⟩
  case round =>
    obtain ⟨j, rfl, hj, HM, HG⟩ := hrel
    by_cases hlt : j < n
    · obtain ⟨b, o, rfl, hb, hc⟩ := (HI.out.keep HG.out).tr hlt
      have HN := Lib.hid (range_all_no (stepOK (okTr next) noTr tr0 l) j n hlt)
      have HY := Lib.hid (range_all_succ (stepOK (okTr next) noTr tr0 l) j)
      have HST : Hid (stepOK (okTr next) noTr tr0 l j = ((numsT (l.getD j tr0) && wi (l.getD j tr0).1.1 1 next) && (decide (j = 0) || decide ((l.getD (j - 1) tr0).1.1 < (l.getD j tr0).1.1)))) := rfl
      have CR := fun w => rightTrade_any (l.getD j tr0) w
      obtain ⟨a0, a1, a2, a3, a4, a5, a6⟩ := hc j hlt
      have HPB : Hid (0 < j → CTr wr b (o + (j - 1) * 7) (l.getD (j - 1) tr0)) := fun h0 => hc (j - 1) (by omega)
      have HB := Lib.hid hb
      clear hc hb
      have i0 : (0 : Int) ≤ (j : Int) := by omega
      have i1 : (j : Int) < (n : Int) := by omega
      generalize stepOK (okTr next) noTr tr0 l j = st at *
      generalize numsT (l.getD j tr0) = R1 at *
      generalize l.getD j tr0 = x at *
      generalize l.getD (j - 1) tr0 = p at *
      obtain ⟨⟨q1, q2, q3, q4, q5, q6⟩, q7⟩ := x
      dsimp only at a0 a1 a2 a3 a4 a5 a6 HST
      dsimp only [vTr] at CR
      have CW := fun w => calls_same (bwithin_any q1 1 next w)
      generalize wi q1 1 next = R2 at *
      have HX0 : Hid (OwnC (wr.alloc (.cells #[.int .i64 q1, .int .i64 q2, .int .i64 q3, .int .i64 q4, .int .i64 q5, .int .i64 q6, .bool q7] 49)) wr.heap.size [.int .i64 q1, .int .i64 q2, .int .i64 q3, .int .i64 q4, .int .i64 q5, .int .i64 q6, .bool q7]) := OwnC.new wr [.int .i64 q1, .int .i64 q2, .int .i64 q3, .int .i64 q4, .int .i64 q5, .int .i64 q6, .bool q7] _ _ rfl
      have HG0 : Hid (Grew wr (wr.alloc (.cells #[.int .i64 q1, .int .i64 q2, .int .i64 q3, .int .i64 q4, .int .i64 q5, .int .i64 q6, .bool q7] 49))) := grew_alloc _ _ _
      go_upto_region 4 with fail
      generalize wr.alloc (.cells #[.int .i64 q1, .int .i64 q2, .int .i64 q3, .int .i64 q4, .int .i64 q5, .int .i64 q6, .bool q7] 49) = w0 at *
      clear a0 a1 a2 a3 a4 a5 a6
      have y0 := grew_every (w := w0) (S := fun w' => w'.cell? ⟨wr.heap.size, 0, none⟩ = some (.int .i64 q1)) (fun w' g => (HX0.out.keep g).at 0 _ rfl)
      have y1 := grew_every (w := w0) (S := fun w' => w'.cell? ⟨wr.heap.size, 1, none⟩ = some (.int .i64 q2)) (fun w' g => (HX0.out.keep g).at 1 _ rfl)
      have y2 := grew_every (w := w0) (S := fun w' => w'.cell? ⟨wr.heap.size, 2, none⟩ = some (.int .i64 q3)) (fun w' g => (HX0.out.keep g).at 2 _ rfl)
      have y3 := grew_every (w := w0) (S := fun w' => w'.cell? ⟨wr.heap.size, 3, none⟩ = some (.int .i64 q4)) (fun w' g => (HX0.out.keep g).at 3 _ rfl)
      have y4 := grew_every (w := w0) (S := fun w' => w'.cell? ⟨wr.heap.size, 4, none⟩ = some (.int .i64 q5)) (fun w' g => (HX0.out.keep g).at 4 _ rfl)
      have y5 := grew_every (w := w0) (S := fun w' => w'.cell? ⟨wr.heap.size, 5, none⟩ = some (.int .i64 q6)) (fun w' g => (HX0.out.keep g).at 5 _ rfl)
      have y6 := grew_every (w := w0) (S := fun w' => w'.cell? ⟨wr.heap.size, 6, none⟩ = some (.bool q7)) (fun w' g => (HX0.out.keep g).at 6 _ rfl)
      have C1 := fun w' (g : Grew w0 w') => CR w'
      have C2 := fun w' (g : Grew w0 w') => CW w'
      clear CR CW
      have H : (R1 = false) ∨ (R1 = true ∧ R2 = false) ∨ (R1 = true ∧ R2 = true) := by cases R1 <;> cases R2 <;> simp
      rcases H with rfl | ⟨rfl, rfl⟩ | ⟨rfl, rfl⟩
      · have HF : Hid (R = false) := by show _ = _; rw [HR.out, ← HN.out (by rw [HST.out]; rfl)]; rfl
        clear HN HY HST HM HR HPB
        refine wp_region_grew (by kernel_rfl) (by kernel_rfl) ?_
        repeat (go_big_quiet_step (with_reducible (first | exact calls_every C1 | exact calls_every C2)))
        refine wpQuiet_nil ?_
        intro w5 hw'
        have HG5 := Lib.hid (grew_of hw')
        clear hw' y0 y1 y2 y3 y4 y5 y6
        go_wp2
        go_ret
        exact ⟨ret_b HF.out.symm, grew_trans HG.out (grew_trans HG0.out HG5.out)⟩
      · have HF : Hid (R = false) := by show _ = _; rw [HR.out, ← HN.out (by rw [HST.out]; rfl)]; rfl
        clear HN HY HST HM HR HPB
        refine wp_region_grew (by kernel_rfl) (by kernel_rfl) ?_
        repeat (go_big_quiet_step (with_reducible (first | exact calls_every C1 | exact calls_every C2)))
        refine wpQuiet_nil ?_
        intro w5 hw'
        have HG5 := Lib.hid (grew_of hw')
        clear hw' y0 y1 y2 y3 y4 y5 y6
        go_wp2
        go_ret
        exact ⟨ret_b HF.out.symm, grew_trans HG.out (grew_trans HG0.out HG5.out)⟩
      · cases j with
        | zero =>
          have HM2 := Lib.hid (HY.out.trans (by rw [HST.out]))
          clear HN HY HST HM HPB
          refine wp_region_grew (by kernel_rfl) (by kernel_rfl) ?_
          repeat (go_big_quiet_step (with_reducible (first | exact calls_every C1 | exact calls_every C2)))
          refine wpQuiet_nil ?_
          intro w5 hw'
          have HG5 := Lib.hid (grew_of hw')
          clear hw' y0 y1 y2 y3 y4 y5 y6
          go_wp2
          go_roundw
          case rel => exact ⟨1, by go_num, by omega, HM2.out, grew_trans HG.out (grew_trans HG0.out HG5.out)⟩
          case measure => simp only [intOf]; omega
        | succ i =>
          obtain ⟨e0, -⟩ := HPB.out (by omega)
          rw [show i + 1 - 1 = i from rfl] at e0
          have HST2 : Hid (st = decide (p.1.1 < q1)) := by show _ = _; rw [HST.out]; simp
          have q5 : IntKind.i64.wrap (((i + 1 : Nat) : Int) - 1) = (i : Int) := by rw [IntKind.wrap_i64]; omega
          have q6 : (0 : Int) < ((i + 1 : Nat) : Int) := by omega
          have q7 : (i : Int) < (n : Int) := by omega
          have q8 : (0 : Int) ≤ (i : Int) := by omega
          generalize p.1.1 = p1 at *
          have z0 := grew_every (w := w0) (S := fun w' => w'.cell? ⟨b, o + i * 7, none⟩ = some (.int .i64 p1)) (fun w' g => (grew_cell (grew_trans HG0.out g) (p := ⟨b, _, none⟩) HB.out).trans e0)
          clear HPB HST e0
          by_cases hnp : p1 < q1
          · have HM2 := Lib.hid (HY.out.trans (by rw [HST2.out, decide_eq_true hnp, HM.out]))
            have q9 : ¬ (p1 ≥ q1) := by omega
            clear HN HY HST2 HM hnp
            refine wp_region_grew (by kernel_rfl) (by kernel_rfl) ?_
            repeat (go_big_quiet_step (with_reducible (first | exact calls_every C1 | exact calls_every C2)))
            refine wpQuiet_nil ?_
            intro w5 hw'
            have HG5 := Lib.hid (grew_of hw')
            clear hw' y0 y1 y2 y3 y4 y5 y6 z0
            go_wp2
            go_roundw
            case rel => exact ⟨i + 1 + 1, by go_num, by omega, HM2.out, grew_trans HG.out (grew_trans HG0.out HG5.out)⟩
            case measure => simp only [intOf]; omega
          · have HF : Hid (R = false) := by show _ = _; rw [HR.out, ← HN.out (by rw [HST2.out, decide_eq_false hnp])]; rfl
            have q9 : p1 ≥ q1 := by omega
            clear HN HY HST2 HM HR hnp
            refine wp_region_grew (by kernel_rfl) (by kernel_rfl) ?_
            repeat (go_big_quiet_step (with_reducible (first | exact calls_every C1 | exact calls_every C2)))
            refine wpQuiet_nil ?_
            intro w5 hw'
            have HG5 := Lib.hid (grew_of hw')
            clear hw' y0 y1 y2 y3 y4 y5 y6 z0
            go_wp2
            go_ret
            exact ⟨ret_b HF.out.symm, grew_trans HG.out (grew_trans HG0.out HG5.out)⟩
    · obtain rfl : j = n := by omega
      by_cases h8 : j ≤ 128
      · have HF : Hid (R = true) := by show _ = _; rw [HR.out, HM.out, decide_eq_true h8]; rfl
        have d8 : (j : Int) ≤ 128 := by omega
        clear HR HM h8
        go_wp2
        go_ret
        exact ⟨ret_b HF.out.symm, HG.out⟩
      · have HF : Hid (R = false) := by show _ = _; rw [HR.out, HM.out, decide_eq_false h8]; rfl
        have d8 : ¬ (j : Int) ≤ 128 := by omega
        clear HR HM h8
        go_wp2
        go_ret
        exact ⟨ret_b HF.out.symm, HG.out⟩

theorem legs_no_at (l : List Po) (j : Nat) (h : j < l.length) (hx : okLeg (l.getD j po0) = false) : l.all okLeg = false := by
  rw [List.all_eq_false]
  exact ⟨_, getD_mem l po0 j h, by rw [hx]; decide⟩
theorem legs_succ (l : List Po) (j : Nat) (h : j < l.length) : (l.take (j + 1)).all okLeg = ((l.take j).all okLeg && okLeg (l.getD j po0)) := by
  rw [List.take_succ_eq_append_getElem h, List.all_append, getD_at l po0 j h]; simp

set_option maxRecDepth 100000 in
set_option maxHeartbeats 4000000 in
theorem rightLegs_any (A : Option Addr) (n c : Nat) (l : List Po) (w : World) (h : RowE enPo w A n l) (hn : n ≤ 100000) :
    Calls Try.prog 41 #[.slice A n c] w fun e w' => e = .returned (.bool (l.all okLeg)) ∧ Grew w w' := by
  have HI := Lib.hid h
  have HL := Lib.hid h.len
  have HR : Hid (l.all okLeg = (l.take n).all okLeg) := by show _ = _; rw [List.take_of_length_le (by rw [h.len]; exact Nat.le_refl _)]
  have HNO := fun j hj => legs_no_at l j (by rw [h.len]; exact hj)
  have HNO := Lib.hid HNO
  generalize l.all okLeg = R at *
  clear h
  go_enter Try.func41, Try.ntmps41
  go_wp2
  go_loopw [7] (fun v wr => ∃ j : Nat, v = .int .i64 j ∧ j ≤ n ∧ Hid ((l.take j).all okLeg = true) ∧ Hid (Grew w wr)) (fun v _ => n - (intOf v).toNat)
  case atStart => exact ⟨0, rfl, by omega, rfl, grew_refl _⟩
  case round =>
    obtain ⟨j, rfl, hj, HM, HG⟩ := hrel
    by_cases hlt : j < n
    · have hjl : j < l.length := by rw [HL.out]; exact hlt
      obtain ⟨b, o, rfl, hb, hc⟩ := (HI.out.keep HG.out).po hlt
      obtain ⟨a0, a1, a2, a3⟩ := hc j hlt
      have HN := Lib.hid (HNO.out j hlt)
      have HY := Lib.hid (legs_succ l j hjl)
      have HOK : Hid (okLeg (l.getD j po0) = (okK ((l.getD j po0).1, (l.getD j po0).2.1) && (isMoney (l.getD j po0).2.2.1 && isMoney (l.getD j po0).2.2.2))) := rfl
      clear hc hb HNO
      have i0 : (0 : Int) ≤ (j : Int) := by omega
      have i1 : (j : Int) < (n : Int) := by omega
      generalize okLeg (l.getD j po0) = ok at *
      generalize l.getD j po0 = x at *
      obtain ⟨q1, q2, q3, q4⟩ := x
      dsimp only at a0 a1 a2 a3 HOK
      have C1 := fun w => permitted_any q1 q2 w
      have C3 := fun w => right_any (some ⟨w.heap.size, 0, none⟩) 2 2 [q3, q4] (w.alloc (.cells #[.int .i64 q3, .int .i64 q4] 3)) (ints2 w q3 q4 _) (by decide)
      simp only [List.all_cons, List.all_nil, Bool.and_true] at C3
      dsimp only [vKy] at C1
      generalize okK (q1, q2) = R1 at *
      generalize (isMoney q3 && isMoney q4) = R2 at *
      have HX0 : Hid (OwnC (wr.alloc (.cells #[.int .i64 q1, .int .i64 q2, .int .i64 q3, .int .i64 q4] 36)) wr.heap.size [.int .i64 q1, .int .i64 q2, .int .i64 q3, .int .i64 q4]) := OwnC.new wr [.int .i64 q1, .int .i64 q2, .int .i64 q3, .int .i64 q4] _ _ rfl
      have H : (R1 = false) ∨ (R1 = true ∧ R2 = false) ∨ (R1 = true ∧ R2 = true) := by cases R1 <;> cases R2 <;> simp
      rcases H with rfl | ⟨rfl, rfl⟩ | ⟨rfl, rfl⟩
      · have HF : Hid (R = false) := HN.out (by rw [HOK.out]; rfl)
        clear HN HY HOK HM HR
        go_wp2_with (go_at_call 59; ((with_reducible refine (C1 _).mono ?_); rintro e w1 ⟨rfl, hg⟩; have HG1 := Lib.hid (grew_trans HG.out (own_back hg)); clear hg))
        go_ret
        exact ⟨ret_b HF.out.symm, HG1.out⟩
      · have HF : Hid (R = false) := HN.out (by rw [HOK.out]; rfl)
        clear HN HY HOK HM HR
        go_wp2_with (first
          | (go_at_call 59; ((with_reducible refine (C1 _).mono ?_); rintro e w1 ⟨rfl, hg⟩; have HG1 := Lib.hid (grew_trans HG.out (own_back hg)); have HX1 := Lib.hid (HX0.out.keep hg); have hN1 := HX1.out.lt; have x2 : w1.cell? ⟨wr.heap.size, 2, none⟩ = some (.int .i64 q3) := HX1.out.at 2 _ rfl; have x3 : w1.cell? ⟨wr.heap.size, 3, none⟩ = some (.int .i64 q4) := HX1.out.at 3 _ rfl; clear hg))
          | (go_at_call 54; ((with_reducible refine (C3 _).mono ?_); rintro e w2 ⟨rfl, rfl⟩)))
        go_ret
        exact ⟨ret_b HF.out.symm, grew_trans HG1.out (grew_alloc _ _ _)⟩
      · have HM2 : Hid ((l.take (j + 1)).all okLeg = true) := by show _ = _; rw [HY.out, HM.out, HOK.out]; rfl
        clear HN HY HOK HM HR
        go_wp2_with (first
          | (go_at_call 59; ((with_reducible refine (C1 _).mono ?_); rintro e w1 ⟨rfl, hg⟩; have HG1 := Lib.hid (grew_trans HG.out (own_back hg)); have HX1 := Lib.hid (HX0.out.keep hg); have hN1 := HX1.out.lt; have x2 : w1.cell? ⟨wr.heap.size, 2, none⟩ = some (.int .i64 q3) := HX1.out.at 2 _ rfl; have x3 : w1.cell? ⟨wr.heap.size, 3, none⟩ = some (.int .i64 q4) := HX1.out.at 3 _ rfl; clear hg))
          | (go_at_call 54; ((with_reducible refine (C3 _).mono ?_); rintro e w2 ⟨rfl, rfl⟩)))
        go_roundw
        case rel => exact ⟨j + 1, by go_num, by omega, HM2.out, grew_trans HG1.out (grew_alloc _ _ _)⟩
        case measure => simp only [intOf]; omega
    · obtain rfl : j = n := by omega
      have HF : Hid (R = true) := HR.out.trans HM.out
      clear HR HM HNO
      go_wp2
      go_ret
      exact ⟨ret_b HF.out.symm, HG.out⟩
end Go.Proofs.Ytkbmiajgmnfpfaa.NumK
