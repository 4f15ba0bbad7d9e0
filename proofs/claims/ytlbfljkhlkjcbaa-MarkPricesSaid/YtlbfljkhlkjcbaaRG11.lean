/- The reference's Add (Ref01D's, over RefSumA). -/
import Derived.Test.YtlbfljkhlkjcbaaRG10
import Derived.Test.YtlbfljkhlkjcbaaRG4
import Derived.Test.YtlbfljkhlkjcbaaRG3
import Derived.Test.YtlbfljkhlkjcbaaRG2
import Derived.Deep.RegionHeld3
import Derived.Lib.Walk
import Derived.Lib.SliceRun
namespace Go.Proofs.Ytlbfljkhlkjcbaa.NumK
open Go.RowKit

set_option maxRecDepth 100000 in
set_option maxHeartbeats 2000000 in
theorem add_any (A : Option Addr) (n c : Nat) (zs : List Int) (w : World) (hz : Ints w A n zs) (hb : ∀ z ∈ zs, -9223372036854775808 ≤ z ∧ z ≤ 9223372036854775807) (hn : n ≤ 100000) :
    Calls Try.prog 77 #[.slice A n c] w fun e w' => e = .returned (.tuple #[.int .i64 (intV zs.sum), .bool (isMoney zs.sum)]) ∧ Grew w w' := by
  have HZ := Lib.hid hz
  have HB := Lib.hid hb
  clear hz hb
  go_enter Try.func77, Try.ntmps77
  go_wp2
  go_loopw [4, 5] (fun v i wr => ∃ k : Nat, k ≤ n ∧ i = .int .i64 k ∧ wr.ownsRow w.heap.size 64 2 v k ((zs.take k).flatMap wcells) ∧ Below w.heap.size w wr) (fun _ i _ => n - (intOf i).toNat)
  case atStart => exact ⟨0, Nat.zero_le _, rfl, by simpa using World.ownsRow_nil _ _ _ _, Below.refl _ _⟩
  case round =>
    obtain ⟨k, hk, rfl, hown, hbel⟩ := hrel
    by_cases hlt : k < n
    · obtain ⟨b0, o0, rfl, hb0, hc⟩ := HZ.out.2 (by omega)
      have hcell : wr.cell? ⟨b0, o0 + k, none⟩ = some (.int .i64 (zs.getD k 0)) := by
        rw [← hc k (by omega)]
        exact hbel.cell (p := ⟨b0, o0 + k, none⟩) hb0
      have hzb := HB.out (zs.getD k 0) (by rw [List.getD_eq_getElem?_getD, List.getElem?_eq_getElem (by have := HZ.out.1; omega)]; exact List.getElem_mem _)
      have HX := Lib.hid (take_map_succ zs k (by have := HZ.out.1; omega))
      have HO := Lib.hid hown
      have HBW := Lib.hid hbel
      clear hc hown hbel
      generalize zs.getD k 0 = y at *
      have C := fun w => of_any y w hzb
      obtain ⟨y1, y2⟩ := hzb
      go_wp2_with (first
        | (go_at_call 25; ((with_reducible refine (C _).mono ?_); rintro e w2 ⟨rfl, hg2⟩; have HG2 := Lib.hid hg2; clear hg2))
        | (at_builtin; refine wpList_append_wide rfl _ _ rfl w.heap.size _ k _ rfl ((own_keep HO.out HG2.out).alloc _) w2.heap.size 1 y rfl (by simp) (by simp) (by omega) (Nat.le_trans HBW.out.size (Nat.le_trans HG2.out.size (by simp))) ?_; intro v' w' hv hb'; have HV := Lib.hid hv; have HB' := Lib.hid hb'; clear hv hb'))
      go_roundw
      case rel =>
        refine ⟨k + 1, by omega, by go_num, ?_, ?_⟩
        · rw [← HX.out]; exact HV.out
        · exact ((HBW.out.trans (HG2.out.mono HBW.out.size)).alloc (Nat.le_trans HBW.out.size HG2.out.size) _).trans HB'.out
      case measure => simp [intOf]; omega
    · have hkn : k = n := by omega
      subst hkn
      have ht : zs.take k = zs := List.take_of_length_le (by have := HZ.out.1; omega)
      rw [ht] at hown
      obtain ⟨A3, c3, rfl, hW⟩ := wides_of_own hown
      have hs := sum_wide zs HB.out (by have := HZ.out.1; omega)
      have C := refSum_any A3 k c3 zs wr hW (fun x hx => by have := HB.out x hx; rw [isWide_iff]; omega) (by omega)
      rw [wsV, if_pos hs, hs] at C
      have D := fun w => refInt_any zs.sum w
      have HBW := Lib.hid hbel
      clear ht hown hW hs hbel hlt
      go_wp2_with (first
        | (go_at_call 27; ((with_reducible refine C.mono ?_); rintro e w2 ⟨rfl, hg2⟩; have HG2 := Lib.hid hg2; clear hg2))
        | (go_at_call 37; ((with_reducible refine (D _).mono ?_); rintro e w3 ⟨rfl, hg3⟩; have HG3 := Lib.hid hg3; clear hg3)))
      go_ret2
      exact ⟨rfl, Below.trans (HBW.out.trans (HG2.out.mono HBW.out.size)) (Below.mono (grew_trans (grew_alloc _ _ _) HG3.out) (Nat.le_trans HBW.out.size HG2.out.size))⟩
end Go.Proofs.Ytlbfljkhlkjcbaa.NumK
namespace Go.Proofs.Ytlbfljkhlkjcbaa.NumK
open Go.RowKit
set_option linter.unusedVariables false

def qtys (l : List Po) : List Int := l.map (·.2.2.1)
def csts (l : List Po) : List Int := l.map (·.2.2.2)
theorem qtys_len (l : List Po) : (qtys l).length = l.length := by simp [qtys]
/-- What the sums tell. -/
def SumPost (l : List Po) (w : World) (e : Ending) (w' : World) : Prop := e = .returned (.tuple #[.int .i64 (sumPQ l), .int .i64 (sumPC l), .int .i64 (sumPE l)]) ∧ Grew w w'
end Go.Proofs.Ytlbfljkhlkjcbaa.NumK
namespace Go.Proofs.Ytlbfljkhlkjcbaa.NumK
open Go.RowKit
set_option linter.unusedVariables false

theorem filter_take_succ {α : Type} (p : α → Bool) (l : List α) (d : α) (j : Nat) (h : j < l.length) : (l.take (j + 1)).filter p = (l.take j).filter p ++ (if p (l.getD j d) then [l.getD j d] else []) := by
  rw [List.take_succ_eq_append_getElem h, List.filter_append, getD_at l d j h]
  congr 1
  cases hp : p l[j] <;> simp [hp]
/-- The quantities of an instrument, so far. -/
def rowI (l : List Po) (k : Nat) : List Int := qtys (l.filter (isI (k : Int)))
theorem rowI_sum (l : List Po) (k : Nat) : (rowI l k).sum = qI l k := rfl
theorem rowI_succ (l : List Po) (j m : Nat) (h : j < l.length) (hm : (l.getD j po0).2.1 = (m : Int)) : ∀ k, upd (rowI (l.take j)) m (rowI (l.take j) m ++ [(l.getD j po0).2.2.1]) k = rowI (l.take (j + 1)) k := by
  intro k
  unfold rowI
  rw [filter_take_succ _ l po0 j h]
  by_cases e : k = m
  · subst e
    rw [upd_at]
    have : isI (k : Int) (l.getD j po0) = true := by unfold isI; rw [hm]; simp
    rw [if_pos this]
    unfold qtys; rw [List.map_append]; rfl
  · rw [upd_ne _ _ e]
    have : isI (k : Int) (l.getD j po0) = false := by unfold isI; rw [hm]; simp; omega
    rw [this]
    simp
theorem rowI_len (l : List Po) (j k : Nat) : (rowI (l.take j) k).length ≤ j := by
  unfold rowI
  rw [qtys_len]
  exact Nat.le_trans (List.length_filter_le _ _) (by rw [List.length_take]; omega)
theorem rowI_money (l : List Po) (k : Nat) (h : ∀ x ∈ l, isMoney x.2.2.1 = true) : (rowI l k).all isMoney = true := by
  rw [List.all_eq_true]
  intro z hz
  unfold rowI qtys at hz
  obtain ⟨x, hx, rfl⟩ := List.mem_map.1 hz
  exact h x (List.mem_filter.1 hx).1
theorem idx9 (v : Nat → Value) (w : World) (k : Nat) (hk : k < 9) : (Instr.index 132 (.agg #[v 0, v 1, v 2, v 3, v 4, v 5, v 6, v 7, v 8]) (.int .i64 (k : Int))).run Try.prog w = .ok (v k) w := by
  have h0 : (Instr.index 132 (.agg #[v 0, v 1, v 2, v 3, v 4, v 5, v 6, v 7, v 8]) (.int .i64 0)).run Try.prog w = .ok (v 0) w := by kernel_rfl
  have h1 : (Instr.index 132 (.agg #[v 0, v 1, v 2, v 3, v 4, v 5, v 6, v 7, v 8]) (.int .i64 1)).run Try.prog w = .ok (v 1) w := by kernel_rfl
  have h2 : (Instr.index 132 (.agg #[v 0, v 1, v 2, v 3, v 4, v 5, v 6, v 7, v 8]) (.int .i64 2)).run Try.prog w = .ok (v 2) w := by kernel_rfl
  have h3 : (Instr.index 132 (.agg #[v 0, v 1, v 2, v 3, v 4, v 5, v 6, v 7, v 8]) (.int .i64 3)).run Try.prog w = .ok (v 3) w := by kernel_rfl
  have h4 : (Instr.index 132 (.agg #[v 0, v 1, v 2, v 3, v 4, v 5, v 6, v 7, v 8]) (.int .i64 4)).run Try.prog w = .ok (v 4) w := by kernel_rfl
  have h5 : (Instr.index 132 (.agg #[v 0, v 1, v 2, v 3, v 4, v 5, v 6, v 7, v 8]) (.int .i64 5)).run Try.prog w = .ok (v 5) w := by kernel_rfl
  have h6 : (Instr.index 132 (.agg #[v 0, v 1, v 2, v 3, v 4, v 5, v 6, v 7, v 8]) (.int .i64 6)).run Try.prog w = .ok (v 6) w := by kernel_rfl
  have h7 : (Instr.index 132 (.agg #[v 0, v 1, v 2, v 3, v 4, v 5, v 6, v 7, v 8]) (.int .i64 7)).run Try.prog w = .ok (v 7) w := by kernel_rfl
  have h8 : (Instr.index 132 (.agg #[v 0, v 1, v 2, v 3, v 4, v 5, v 6, v 7, v 8]) (.int .i64 8)).run Try.prog w = .ok (v 8) w := by kernel_rfl
  have : k = 0 ∨ k = 1 ∨ k = 2 ∨ k = 3 ∨ k = 4 ∨ k = 5 ∨ k = 6 ∨ k = 7 ∨ k = 8 := by omega
  rcases this with rfl | rfl | rfl | rfl | rfl | rfl | rfl | rfl | rfl
  · exact h0
  · exact h1
  · exact h2
  · exact h3
  · exact h4
  · exact h5
  · exact h6
  · exact h7
  · exact h8

theorem Fam.set {κ α : Type} {E : En α} {w : World} {base : Nat} {t : TypeId} {v : κ → Value} {rows : κ → List α} (h : Fam E w base t v rows) (b i : Nat) (u : Value) (hb : b < base) : Fam E (w.setCell ⟨b, i, none⟩ u) base t v rows :=
  ⟨fun k => (h.own k).set b i u hb, h.ne⟩
theorem set9 {w : World} {M m N : Nat} {v : Nat → Value} (h : ∀ k, k < N → w.cell? ⟨M, k, none⟩ = some (v k) ∧ w.frozen? ⟨M, k, none⟩ = false) (hm : m < N) (u : Value) :
    ∀ k, k < N → (w.setCell ⟨M, m, none⟩ u).cell? ⟨M, k, none⟩ = some (upd v m u k) ∧ (w.setCell ⟨M, m, none⟩ u).frozen? ⟨M, k, none⟩ = false := fun k hk => by
  refine ⟨?_, by rw [World.frozen?_setCell]; exact (h k hk).2⟩
  by_cases e : k = m
  · subst e; rw [upd_at]; exact World.cell?_setCell_same _ _ _ (h k hk).1
  · rw [upd_ne _ _ e, World.cell?_setCell_other _ _ _ _ (by intro e2; simp only [Addr.mk.injEq] at e2; omega)]; exact (h k hk).1

set_option maxRecDepth 100000 in
set_option maxHeartbeats 4000000 in
theorem beven_any (A : Option Addr) (n c : Nat) (l : List Po) (w : World) (h : RowE enPo w A n l) (hk : ∀ x ∈ l, okK (keyP x) = true) (hm : ∀ x ∈ l, isMoney x.2.2.1 = true) (hn : n ≤ 100000) :
    Calls Try.prog 86 #[.slice A n c] w fun e w' => e = .returned (.bool (flatI l)) ∧ Grew w w' := by
  have HI := Lib.hid h
  have HL := Lib.hid h.len
  have HK : Hid (∀ j, j < n → ∃ m : Nat, (l.getD j po0).2.1 = (m : Int) ∧ 1 ≤ m ∧ m ≤ 8) := fun j hj => by
    have h1 := (okK_iff _).1 (hk _ (getD_mem l po0 j (by rw [h.len]; exact hj)))
    have h2 : 1 ≤ (l.getD j po0).2.1 ∧ (l.getD j po0).2.1 ≤ 8 := h1.2
    exact ⟨(l.getD j po0).2.1.toNat, by omega, by omega, by omega⟩
  have HMN : Hid (∀ k, (rowI l k).all isMoney = true) := fun k => rowI_money l k hm
  have HNO : Hid (∀ k : Nat, k < 9 → (rowI l k).sum ≠ 0 → flatI l = false) := fun k hk9 hs => by
    rcases Nat.eq_zero_or_pos k with h0 | h0
    · subst h0
      exfalso
      apply hs
      have : l.filter (isI ((0 : Nat) : Int)) = [] := by
        rw [List.filter_eq_nil_iff]
        intro x hx he
        have h1 := ((okK_iff _).1 (hk x hx)).2
        have h2 : x.2.1 = 0 := by unfold isI at he; simpa using he
        have h3 : 1 ≤ x.2.1 := h1.1
        omega
      unfold rowI; rw [this]; rfl
    · rw [← Bool.not_eq_true, flatI_iff]
      intro h2
      exact hs (h2 (k : Int) (by omega) (by omega))
  have HYES : Hid ((∀ k : Nat, k < 9 → (rowI l k).sum = 0) → flatI l = true) := fun h2 => by
    rw [flatI_iff]
    intro m h3 h4
    have := h2 m.toNat (by omega)
    rw [rowI_sum, show ((m.toNat : Nat) : Int) = m by omega] at this
    exact this
  clear h hk hm
  generalize flatI l = R at *
  go_enter Try.func86, Try.ntmps86
  go_wp2
  have HC0 : Hid (OwnC (w.alloc (.cells #[.slice none 0 0, .slice none 0 0, .slice none 0 0, .slice none 0 0, .slice none 0 0, .slice none 0 0, .slice none 0 0, .slice none 0 0, .slice none 0 0] 132)) w.heap.size (List.replicate 9 (.slice none 0 0))) := OwnC.new w (List.replicate 9 (.slice none 0 0)) _ _ rfl
  have HG0 : Hid (Grew w (w.alloc (.cells #[.slice none 0 0, .slice none 0 0, .slice none 0 0, .slice none 0 0, .slice none 0 0, .slice none 0 0, .slice none 0 0, .slice none 0 0, .slice none 0 0] 132))) := grew_alloc _ _ _
  have HMM : Hid (w.heap.size + 1 ≤ (w.alloc (.cells #[.slice none 0 0, .slice none 0 0, .slice none 0 0, .slice none 0 0, .slice none 0 0, .slice none 0 0, .slice none 0 0, .slice none 0 0, .slice none 0 0] 132)).heap.size) := by show _ ≤ _; simp
  generalize w.alloc (.cells #[.slice none 0 0, .slice none 0 0, .slice none 0 0, .slice none 0 0, .slice none 0 0, .slice none 0 0, .slice none 0 0, .slice none 0 0, .slice none 0 0] 132) = w1 at *
  obtain ⟨M, hM⟩ : ∃ M, M = w.heap.size := ⟨_, rfl⟩
  have HMW : Hid (w.heap.size = M) := hM.symm
  rw [← hM] at HC0 HMM ⊢
  clear hM
  go_loopw [12] (fun v12 wr => ∃ (j : Nat) (v : Nat → Value), v12 = .int .i64 j ∧ j ≤ n ∧ Hid (Fam enInt wr (M + 1) 3 v (rowI (l.take j))) ∧ Hid (∀ k, k < 9 → wr.cell? ⟨M, k, none⟩ = some (v k) ∧ wr.frozen? ⟨M, k, none⟩ = false) ∧ Hid (Grew w wr) ∧ Hid (M + 1 ≤ wr.heap.size)) (fun v12 _ => n - (intOf v12).toNat)
  case atStart =>
    refine ⟨0, fun _ => .slice none 0 0, rfl, by omega, (Fam.nil enInt w1 (M + 1) 3).congr fun k => rfl, fun k hk => ⟨?_, ?_⟩, HG0.out, HMM.out⟩
    · rw [HC0.out.c k (by simpa using hk)]
      rw [List.getElem?_replicate, if_pos hk]
    · exact HC0.out.f k (by simpa using hk)
  case round =>
    clear HC0 HG0 HMM
    obtain ⟨j, v, rfl, hj, HF, HC, HG, HZ⟩ := hrel
    by_cases hlt : j < n
    · have hjl : j < l.length := by rw [HL.out]; exact hlt
      obtain ⟨b, o, rfl, hb, hc⟩ := (HI.out.keep HG.out).po hlt
      obtain ⟨a0, a1, a2, a3⟩ := hc j hlt
      obtain ⟨m, hm, m1, m2⟩ := HK.out j hlt
      have HS := Lib.hid (rowI_succ l j m hjl hm)
      have HRL := Lib.hid (rowI_len l j m)
      clear hc hb
      have i0 : (0 : Int) ≤ (j : Int) := by omega
      have i1 : (j : Int) < (n : Int) := by omega
      generalize l.getD j po0 = x at *
      obtain ⟨q1, q2, q3, q4⟩ := x
      dsimp only at a0 a1 a2 a3 hm HS
      subst hm
      have i2 : (0 : Int) ≤ (m : Int) := by omega
      have i3 : (m : Int) < 9 := by omega
      go_wp2
      have HX0 : Hid (OwnC (wr.alloc (.cells #[.int .i64 q1, .int .i64 m, .int .i64 q3, .int .i64 q4] 34)) wr.heap.size [.int .i64 q1, .int .i64 m, .int .i64 q3, .int .i64 q4]) := OwnC.new wr [.int .i64 q1, .int .i64 m, .int .i64 q3, .int .i64 q4] _ _ rfl
      have HGA : Hid (Grew wr (wr.alloc (.cells #[.int .i64 q1, .int .i64 m, .int .i64 q3, .int .i64 q4] 34))) := grew_alloc _ _ _
      generalize wr.alloc (.cells #[.int .i64 q1, .int .i64 m, .int .i64 q3, .int .i64 q4] 34) = w0 at *
      have HF0 := Lib.hid (HF.out.keep HGA.out)
      have HGW := Lib.hid (grew_trans HG.out HGA.out)
      have HN0 : Hid (wr.heap.size < w0.heap.size) := HX0.out.lt
      have HC0 : Hid (∀ k, k < 9 → w0.cell? ⟨M, k, none⟩ = some (v k) ∧ w0.frozen? ⟨M, k, none⟩ = false) := fun k hk => ⟨(grew_cell HGA.out (p := ⟨M, k, none⟩) (by show M < _; have := HZ.out; omega)).trans (HC.out k hk).1, (Below.frozen HGA.out (p := ⟨M, k, none⟩) (by show M < _; have := HZ.out; omega)).trans (HC.out k hk).2⟩
      have HOB : Hid (some wr.heap.size ≠ (v m).ownBlock) := fun e => by have := (HF.out.lt m e.symm).2; omega
      have hM0 : M < w0.heap.size := by have := HZ.out; have := HN0.out; omega
      have d0 := (HC0.out m (by omega)).1
      have HSP : Hid (∀ w', Grew w0 w' → (w'.cell? ⟨wr.heap.size, 1, none⟩ = some (.int .i64 m) ∧ w'.cell? ⟨wr.heap.size, 2, none⟩ = some (.int .i64 q3))) := fun w' g => ⟨(HX0.out.keep g).at 1 _ rfl, (HX0.out.keep g).at 2 _ rfl⟩
      have HMR : Hid (M + 1 ≤ wr.heap.size) := HZ.out
      clear a0 a1 a2 a3 HX0 HF HC HG HGA HZ
      generalize wr.heap.size = N0 at *
      have HM9 : Hid (m < 9) := by show _ < _; omega
      have HSP2 : Hid (∀ wx w', Grew w0 wx → wx.grownBy w' (v m).ownBlock → (w'.cell? ⟨N0, 1, none⟩ = some (.int .i64 m) ∧ w'.cell? ⟨N0, 2, none⟩ = some (.int .i64 q3))) := fun wx w' g hg => by
        have hlt : N0 < wx.heap.size := Nat.lt_of_lt_of_le HN0.out g.size
        exact ⟨(hg.cell_far ⟨N0, 1, none⟩ hlt HOB.out).trans (HSP.out _ g).1, (hg.cell_far ⟨N0, 2, none⟩ hlt HOB.out).trans (HSP.out _ g).2⟩
      have HSP3 : Hid (∀ wx w', Grew w0 wx → Below (M + 1) wx w' → wx.grownBy w' (v m).ownBlock → Below w.heap.size w0 w') := fun wx w' g hb hg => Below.mono (Below.trans (Below.mono g (by have := HMR.out; have := HN0.out; omega)) hb) (by rw [HMW.out]; exact Nat.le_succ _)
      have HSP4 : Hid (∀ wx w', Grew w0 wx → wx.grownBy w' (v m).ownBlock → ∀ k, k < 9 → w'.cell? ⟨M, k, none⟩ = some (v k) ∧ w'.frozen? ⟨M, k, none⟩ = false) := fun wx w' g hg k hk => by
        have h1 := (HF0.out.keep g).far hg (b := M) (Nat.lt_of_lt_of_le (by have := HMR.out; have := HN0.out; omega) g.size) (Nat.lt_succ_self _) k
        exact ⟨h1.1.trans ((grew_cell g (p := ⟨M, k, none⟩) (by show M < _; have := HMR.out; have := HN0.out; omega)).trans (HC0.out k hk).1), h1.2.trans ((Below.frozen g (p := ⟨M, k, none⟩) (by show M < _; have := HMR.out; have := HN0.out; omega)).trans (HC0.out k hk).2)⟩
      refine wp_region_noPanic ?_
      refine wp_region_held_drew (S := fun w' => w'.cell? ⟨N0, 1, none⟩ = some (.int .i64 m) ∧ w'.cell? ⟨N0, 2, none⟩ = some (.int .i64 q3)) (by kernel_rfl) (HSP.out _ (grew_drew (grew_refl _))) (fun hHeld => ?_)
      -- REGION5
      (refine wpAnyH_take (i := 0) (oi := { dst := some 16, op := Op.fieldAddr 34 (Operand.tmp 5) 0, type := 0, pos := "book.go:179", after := #[], guard := none }) (v := ?_) rfl (by kernel_rfl) (by kernel_rfl) (by kernel_rfl) (fun _ _ _ h => h) (Or.inl ⟨by rfl, ?_⟩) (by assumption) ?_; rotate_left; · (intro w hSw; (try dsimp only at hSw); go_simp; (first | done | with_reducible rfl)))
      try simp only [Act.put, List.setIfInBounds_toArray, List.set_cons_zero, List.set_cons_succ]
      (refine wpAnyH_take (i := 1) (oi := { dst := some 17, op := Op.fieldAddr 32 (Operand.tmp 16) 1, type := 0, pos := "book.go:179", after := #[{ on := 0, ground := Ground.data }], guard := none }) (v := ?_) rfl (by kernel_rfl) (by kernel_rfl) (by kernel_rfl) (fun _ _ _ h => h) (Or.inl ⟨by rfl, ?_⟩) (by assumption) ?_; rotate_left; · (intro w hSw; (try dsimp only at hSw); go_simp; (first | done | with_reducible rfl)))
      try simp only [Act.put, List.setIfInBounds_toArray, List.set_cons_zero, List.set_cons_succ]
      (refine wpAnyH_take (i := 2) (oi := { dst := some 18, op := Op.load 3 (Operand.tmp 17), type := 3, pos := "book.go:179", after := #[{ on := 1, ground := Ground.data }], guard := none }) (v := ?_) rfl (by kernel_rfl) (by kernel_rfl) (by kernel_rfl) (fun _ _ _ h => h) (Or.inl ⟨by rfl, ?_⟩) (by assumption) ?_; rotate_left; · (intro w hSw; (try dsimp only at hSw); go_simp; (first | done | with_reducible rfl)))
      try simp only [Act.put, List.setIfInBounds_toArray, List.set_cons_zero, List.set_cons_succ]
      (refine wpAnyH_take (i := 3) (oi := { dst := some 19, op := Op.fieldAddr 34 (Operand.tmp 5) 0, type := 0, pos := "book.go:179", after := #[], guard := none }) (v := ?_) rfl (by kernel_rfl) (by kernel_rfl) (by kernel_rfl) (fun _ _ _ h => h) (Or.inl ⟨by rfl, ?_⟩) (by assumption) ?_; rotate_left; · (intro w hSw; (try dsimp only at hSw); go_simp; (first | done | with_reducible rfl)))
      try simp only [Act.put, List.setIfInBounds_toArray, List.set_cons_zero, List.set_cons_succ]
      (refine wpAnyH_take (i := 4) (oi := { dst := some 20, op := Op.fieldAddr 32 (Operand.tmp 19) 1, type := 0, pos := "book.go:179", after := #[{ on := 3, ground := Ground.data }], guard := none }) (v := ?_) rfl (by kernel_rfl) (by kernel_rfl) (by kernel_rfl) (fun _ _ _ h => h) (Or.inl ⟨by rfl, ?_⟩) (by assumption) ?_; rotate_left; · (intro w hSw; (try dsimp only at hSw); go_simp; (first | done | with_reducible rfl)))
      try simp only [Act.put, List.setIfInBounds_toArray, List.set_cons_zero, List.set_cons_succ]
      (refine wpAnyH_take (i := 5) (oi := { dst := some 21, op := Op.load 3 (Operand.tmp 20), type := 3, pos := "book.go:179", after := #[{ on := 4, ground := Ground.data }], guard := none }) (v := ?_) rfl (by kernel_rfl) (by kernel_rfl) (by kernel_rfl) (fun _ _ _ h => h) (Or.inl ⟨by rfl, ?_⟩) (by assumption) ?_; rotate_left; · (intro w hSw; (try dsimp only at hSw); go_simp; (first | done | with_reducible rfl)))
      try simp only [Act.put, List.setIfInBounds_toArray, List.set_cons_zero, List.set_cons_succ]
      (refine wpAnyH_take (i := 6) (oi := { dst := some 22, op := Op.indexAddr 132 (Operand.tmp 3) (Operand.tmp 21), type := 0, pos := "book.go:179", after := #[{ on := 5, ground := Ground.data }], guard := none }) (v := ?_) rfl (by kernel_rfl) (by kernel_rfl) (by kernel_rfl) (fun _ _ _ h => h) (Or.inl ⟨by rfl, ?_⟩) (by assumption) ?_; rotate_left; · (intro w hSw; (try dsimp only at hSw); go_simp; (first | done | with_reducible rfl)))
      try simp only [Act.put, List.setIfInBounds_toArray, List.set_cons_zero, List.set_cons_succ]
      (refine wpAnyH_take (i := 8) (oi := { dst := some 24, op := Op.fieldAddr 34 (Operand.tmp 5) 1, type := 0, pos := "book.go:179", after := #[], guard := none }) (v := ?_) rfl (by kernel_rfl) (by kernel_rfl) (by kernel_rfl) (fun _ _ _ h => h) (Or.inl ⟨by rfl, ?_⟩) (by assumption) ?_; rotate_left; · (intro w hSw; (try dsimp only at hSw); go_simp; (first | done | with_reducible rfl)))
      try simp only [Act.put, List.setIfInBounds_toArray, List.set_cons_zero, List.set_cons_succ]
      (refine wpAnyH_take (i := 9) (oi := { dst := some 25, op := Op.load 3 (Operand.tmp 24), type := 3, pos := "book.go:179", after := #[{ on := 8, ground := Ground.data }], guard := none }) (v := ?_) rfl (by kernel_rfl) (by kernel_rfl) (by kernel_rfl) (fun _ _ _ h => h) (Or.inl ⟨by rfl, ?_⟩) (by assumption) ?_; rotate_left; · (intro w hSw; (try dsimp only at hSw); go_simp; (first | done | with_reducible rfl)))
      try simp only [Act.put, List.setIfInBounds_toArray, List.set_cons_zero, List.set_cons_succ]
      refine wpAnyH_ready (rs := [7, 10]) (by kernel_rfl) (by simp) ?_
      refine (AllReadyH.cons (o := { dst := some 23, op := Op.load 104 (Operand.tmp 22), type := 104, pos := "book.go:179", after := #[{ on := 6, ground := Ground.data }], guard := none }) rfl (fun K hK => ?_) (AllReadyH.cons (o := { dst := some 26, op := Op.buildSlice 104 1 #[(0, Operand.tmp 25)], type := 104, pos := "book.go:179", after := #[{ on := 9, ground := Ground.data }], guard := none }) rfl (fun K hK => ?_) AllReadyH.nil))
      · go_simp
        refine hK.out _ _ ?_ (fun hHeld => ?_)
        · first
          | exact HSP.out _ (by repeat (first | exact grew_refl _ | refine grew_drew ?_ | refine grew_trans ?_ (grew_alloc _ _ _)))
        clear hK K
        try simp only [Act.put, List.setIfInBounds_toArray, List.set_cons_zero, List.set_cons_succ]
        refine wpAnyH_ready (rs := [10]) (by kernel_rfl) (by simp) ?_
        refine (AllReadyH.cons (o := { dst := some 26, op := Op.buildSlice 104 1 #[(0, Operand.tmp 25)], type := 104, pos := "book.go:179", after := #[{ on := 9, ground := Ground.data }], guard := none }) rfl (fun K hK => ?_) AllReadyH.nil)
        go_simp
        refine hK.out _ _ ?_ (fun hHeld => ?_)
        · first
          | exact HSP.out _ (by repeat (first | exact grew_refl _ | refine grew_drew ?_ | refine grew_trans ?_ (grew_alloc _ _ _)))
        clear hK K
        try simp only [Act.put, List.setIfInBounds_toArray, List.set_cons_zero, List.set_cons_succ]
        refine wpAnyH_ready (rs := [11]) (by kernel_rfl) (by simp) ?_
        refine (AllReadyH.cons (o := { dst := some 27, op := Op.call { callee := Callee.builtin Builtin.append, args := #[Operand.tmp 23, Operand.tmp 26], argTypes := #[104, 104] }, type := 104, pos := "book.go:179", after := #[{ on := 7, ground := Ground.data }, { on := 10, ground := Ground.data }], guard := none }) rfl (fun K hK => ?_) AllReadyH.nil)
        refine step_fam (E := enInt) (t := 3) (base := M + 1) m (by rfl) _ _ 104 (.int .i64 0) 8 (by rfl) Try.underlying104 info_int1 (by rfl) (HF0.out.keep (by repeat (first | exact grew_refl _ | refine grew_drew ?_ | refine grew_trans ?_ (grew_alloc _ _ _)))) (by rfl) _ q3 (by rfl) (by first | exact RowE.one1 enInt _ _ _ _ _ (by simp) rfl | exact (RowE.one1 enInt _ _ _ _ _ (by simp) rfl).keep (grew_drew (grew_refl _))) (by have := HRL.out; unfold maxLen; omega) (by have := HRL.out; omega) (by have := HMR.out; have := HN0.out; simp; omega) ?_
        intro v2 w2 hf hb hg
        have HP2 := HSP2.out _ _ (by repeat (first | exact grew_refl _ | refine grew_drew ?_ | refine grew_trans ?_ (grew_alloc _ _ _))) hg
        obtain ⟨A9, c9, hv9, -⟩ := (hf.own m).form
        rw [upd_at] at hv9
        obtain ⟨A9, n9, c9, rfl⟩ : ∃ A n c, v2 = .slice A n c := ⟨_, _, _, hv9⟩
        clear hv9
        have HF2 := Lib.hid hf
        have HG2 : Hid (Grew w w2) := Below.trans HGW.out (HSP3.out _ _ (by repeat (first | exact grew_refl _ | refine grew_drew ?_ | refine grew_trans ?_ (grew_alloc _ _ _))) hb hg)
        have HC2 := Lib.hid (HSP4.out _ _ (by repeat (first | exact grew_refl _ | refine grew_drew ?_ | refine grew_trans ?_ (grew_alloc _ _ _))) hg)
        have d2 := (HC2.out m HM9.out).1
        have d3 := (HC2.out m HM9.out).2
        have HB2 : Hid (Below w.heap.size w0 w2) := HSP3.out _ _ (by repeat (first | exact grew_refl _ | refine grew_drew ?_ | refine grew_trans ?_ (grew_alloc _ _ _))) hb hg
        clear hf hb hg
        refine hK.out _ _ ?_ (fun hHeld => ?_)
        · first
          | exact HP2
        clear hK K
        try simp only [Act.put, List.setIfInBounds_toArray, List.set_cons_zero, List.set_cons_succ]
        (refine wpAnyH_take (i := 12) (oi := { dst := some 28, op := Op.indexAddr 132 (Operand.tmp 3) (Operand.tmp 18), type := 0, pos := "book.go:179", after := #[{ on := 2, ground := Ground.data }, { on := 0, ground := Ground.phase }, { on := 1, ground := Ground.phase }, { on := 2, ground := Ground.phase }, { on := 3, ground := Ground.phase }, { on := 4, ground := Ground.phase }, { on := 5, ground := Ground.phase }, { on := 6, ground := Ground.phase }, { on := 7, ground := Ground.phase }, { on := 8, ground := Ground.phase }, { on := 9, ground := Ground.phase }, { on := 10, ground := Ground.phase }, { on := 11, ground := Ground.phase }], guard := none }) (v := ?_) rfl (by kernel_rfl) (by kernel_rfl) (by kernel_rfl) (fun _ _ _ h => h) (Or.inl ⟨by rfl, ?_⟩) (by assumption) ?_; rotate_left; · (intro w hSw; (try dsimp only at hSw); go_simp; (first | done | with_reducible rfl)))
        try simp only [Act.put, List.setIfInBounds_toArray, List.set_cons_zero, List.set_cons_succ]
        refine wpAnyH_ready (rs := [13]) (by kernel_rfl) (by simp) ?_
        refine (AllReadyH.cons (o := { dst := none, op := Op.store 104 (Operand.tmp 28) (Operand.tmp 27), type := 0, pos := "book.go:179", after := #[{ on := 12, ground := Ground.data }, { on := 11, ground := Ground.data }, { on := 11, ground := Ground.chain }, { on := 0, ground := Ground.phase }, { on := 1, ground := Ground.phase }, { on := 2, ground := Ground.phase }, { on := 3, ground := Ground.phase }, { on := 4, ground := Ground.phase }, { on := 5, ground := Ground.phase }, { on := 6, ground := Ground.phase }, { on := 7, ground := Ground.phase }, { on := 8, ground := Ground.phase }, { on := 9, ground := Ground.phase }, { on := 10, ground := Ground.phase }, { on := 11, ground := Ground.phase }], guard := none }) rfl (fun K hK => ?_) AllReadyH.nil)
        go_simp
        refine hK.out _ _ ?_ (fun hHeld => ?_)
        · first
          | exact ⟨(World.cell?_setCell_other _ _ _ _ (by intro e; simp only [Addr.mk.injEq] at e; have := HMR.out; omega)).trans HP2.1, (World.cell?_setCell_other _ _ _ _ (by intro e; simp only [Addr.mk.injEq] at e; have := HMR.out; omega)).trans HP2.2⟩
        clear hK K
        try simp only [Act.put, List.setIfInBounds_toArray, List.set_cons_zero, List.set_cons_succ]
        refine wpAnyH_done (by kernel_rfl) ?_ _
        clear hHeld d2 d3
        have HG3 : Hid (Grew w (w2.setCell ⟨M, m, none⟩ (.slice A9 n9 c9))) := grew_set HG2.out _ (by rw [HMW.out]; exact Nat.le_refl _)
        have HC3 := Lib.hid (set9 HC2.out HM9.out (.slice A9 n9 c9))
        have HF3 : Hid (Fam enInt (w2.setCell ⟨M, m, none⟩ (.slice A9 n9 c9)) (M + 1) 3 (upd v m (.slice A9 n9 c9)) (rowI (l.take (j + 1)))) := (HF2.out.congr HS.out).set M m _ (Nat.lt_succ_self _)
        have HZ3 : Hid (M + 1 ≤ (w2.setCell ⟨M, m, none⟩ (.slice A9 n9 c9)).heap.size) := le_set _ _ (Nat.le_trans (by have := HMR.out; have := HN0.out; omega) HB2.out.size)
        clear HF0 HC0 HSP HSP2 HSP3 HSP4 HF2 HC2 HP2 HG2 HB2 HS
        apply_assumption
        go_wp2
        go_roundw
        case rel => exact ⟨j + 1, _, by go_num, by omega, HF3.out, HC3.out, HG3.out, HZ3.out⟩
        case measure => simp only [intOf]; omega
      · go_simp
        refine hK.out _ _ ?_ (fun hHeld => ?_)
        · first
          | exact HSP.out _ (by repeat (first | exact grew_refl _ | refine grew_drew ?_ | refine grew_trans ?_ (grew_alloc _ _ _)))
        clear hK K
        try simp only [Act.put, List.setIfInBounds_toArray, List.set_cons_zero, List.set_cons_succ]
        refine wpAnyH_ready (rs := [7]) (by kernel_rfl) (by simp) ?_
        refine (AllReadyH.cons (o := { dst := some 23, op := Op.load 104 (Operand.tmp 22), type := 104, pos := "book.go:179", after := #[{ on := 6, ground := Ground.data }], guard := none }) rfl (fun K hK => ?_) AllReadyH.nil)
        go_simp
        refine hK.out _ _ ?_ (fun hHeld => ?_)
        · first
          | exact HSP.out _ (by repeat (first | exact grew_refl _ | refine grew_drew ?_ | refine grew_trans ?_ (grew_alloc _ _ _)))
        clear hK K
        try simp only [Act.put, List.setIfInBounds_toArray, List.set_cons_zero, List.set_cons_succ]
        refine wpAnyH_ready (rs := [11]) (by kernel_rfl) (by simp) ?_
        refine (AllReadyH.cons (o := { dst := some 27, op := Op.call { callee := Callee.builtin Builtin.append, args := #[Operand.tmp 23, Operand.tmp 26], argTypes := #[104, 104] }, type := 104, pos := "book.go:179", after := #[{ on := 7, ground := Ground.data }, { on := 10, ground := Ground.data }], guard := none }) rfl (fun K hK => ?_) AllReadyH.nil)
        refine step_fam (E := enInt) (t := 3) (base := M + 1) m (by rfl) _ _ 104 (.int .i64 0) 8 (by rfl) Try.underlying104 info_int1 (by rfl) (HF0.out.keep (by repeat (first | exact grew_refl _ | refine grew_drew ?_ | refine grew_trans ?_ (grew_alloc _ _ _)))) (by rfl) _ q3 (by rfl) (by first | exact RowE.one1 enInt _ _ _ _ _ (by simp) rfl | exact (RowE.one1 enInt _ _ _ _ _ (by simp) rfl).keep (grew_drew (grew_refl _))) (by have := HRL.out; unfold maxLen; omega) (by have := HRL.out; omega) (by have := HMR.out; have := HN0.out; simp; omega) ?_
        intro v2 w2 hf hb hg
        have HP2 := HSP2.out _ _ (by repeat (first | exact grew_refl _ | refine grew_drew ?_ | refine grew_trans ?_ (grew_alloc _ _ _))) hg
        obtain ⟨A9, c9, hv9, -⟩ := (hf.own m).form
        rw [upd_at] at hv9
        obtain ⟨A9, n9, c9, rfl⟩ : ∃ A n c, v2 = .slice A n c := ⟨_, _, _, hv9⟩
        clear hv9
        have HF2 := Lib.hid hf
        have HG2 : Hid (Grew w w2) := Below.trans HGW.out (HSP3.out _ _ (by repeat (first | exact grew_refl _ | refine grew_drew ?_ | refine grew_trans ?_ (grew_alloc _ _ _))) hb hg)
        have HC2 := Lib.hid (HSP4.out _ _ (by repeat (first | exact grew_refl _ | refine grew_drew ?_ | refine grew_trans ?_ (grew_alloc _ _ _))) hg)
        have d2 := (HC2.out m HM9.out).1
        have d3 := (HC2.out m HM9.out).2
        have HB2 : Hid (Below w.heap.size w0 w2) := HSP3.out _ _ (by repeat (first | exact grew_refl _ | refine grew_drew ?_ | refine grew_trans ?_ (grew_alloc _ _ _))) hb hg
        clear hf hb hg
        refine hK.out _ _ ?_ (fun hHeld => ?_)
        · first
          | exact HP2
        clear hK K
        try simp only [Act.put, List.setIfInBounds_toArray, List.set_cons_zero, List.set_cons_succ]
        (refine wpAnyH_take (i := 12) (oi := { dst := some 28, op := Op.indexAddr 132 (Operand.tmp 3) (Operand.tmp 18), type := 0, pos := "book.go:179", after := #[{ on := 2, ground := Ground.data }, { on := 0, ground := Ground.phase }, { on := 1, ground := Ground.phase }, { on := 2, ground := Ground.phase }, { on := 3, ground := Ground.phase }, { on := 4, ground := Ground.phase }, { on := 5, ground := Ground.phase }, { on := 6, ground := Ground.phase }, { on := 7, ground := Ground.phase }, { on := 8, ground := Ground.phase }, { on := 9, ground := Ground.phase }, { on := 10, ground := Ground.phase }, { on := 11, ground := Ground.phase }], guard := none }) (v := ?_) rfl (by kernel_rfl) (by kernel_rfl) (by kernel_rfl) (fun _ _ _ h => h) (Or.inl ⟨by rfl, ?_⟩) (by assumption) ?_; rotate_left; · (intro w hSw; (try dsimp only at hSw); go_simp; (first | done | with_reducible rfl)))
        try simp only [Act.put, List.setIfInBounds_toArray, List.set_cons_zero, List.set_cons_succ]
        refine wpAnyH_ready (rs := [13]) (by kernel_rfl) (by simp) ?_
        refine (AllReadyH.cons (o := { dst := none, op := Op.store 104 (Operand.tmp 28) (Operand.tmp 27), type := 0, pos := "book.go:179", after := #[{ on := 12, ground := Ground.data }, { on := 11, ground := Ground.data }, { on := 11, ground := Ground.chain }, { on := 0, ground := Ground.phase }, { on := 1, ground := Ground.phase }, { on := 2, ground := Ground.phase }, { on := 3, ground := Ground.phase }, { on := 4, ground := Ground.phase }, { on := 5, ground := Ground.phase }, { on := 6, ground := Ground.phase }, { on := 7, ground := Ground.phase }, { on := 8, ground := Ground.phase }, { on := 9, ground := Ground.phase }, { on := 10, ground := Ground.phase }, { on := 11, ground := Ground.phase }], guard := none }) rfl (fun K hK => ?_) AllReadyH.nil)
        go_simp
        refine hK.out _ _ ?_ (fun hHeld => ?_)
        · first
          | exact ⟨(World.cell?_setCell_other _ _ _ _ (by intro e; simp only [Addr.mk.injEq] at e; have := HMR.out; omega)).trans HP2.1, (World.cell?_setCell_other _ _ _ _ (by intro e; simp only [Addr.mk.injEq] at e; have := HMR.out; omega)).trans HP2.2⟩
        clear hK K
        try simp only [Act.put, List.setIfInBounds_toArray, List.set_cons_zero, List.set_cons_succ]
        refine wpAnyH_done (by kernel_rfl) ?_ _
        clear hHeld d2 d3
        have HG3 : Hid (Grew w (w2.setCell ⟨M, m, none⟩ (.slice A9 n9 c9))) := grew_set HG2.out _ (by rw [HMW.out]; exact Nat.le_refl _)
        have HC3 := Lib.hid (set9 HC2.out HM9.out (.slice A9 n9 c9))
        have HF3 : Hid (Fam enInt (w2.setCell ⟨M, m, none⟩ (.slice A9 n9 c9)) (M + 1) 3 (upd v m (.slice A9 n9 c9)) (rowI (l.take (j + 1)))) := (HF2.out.congr HS.out).set M m _ (Nat.lt_succ_self _)
        have HZ3 : Hid (M + 1 ≤ (w2.setCell ⟨M, m, none⟩ (.slice A9 n9 c9)).heap.size) := le_set _ _ (Nat.le_trans (by have := HMR.out; have := HN0.out; omega) HB2.out.size)
        clear HF0 HC0 HSP HSP2 HSP3 HSP4 HF2 HC2 HP2 HG2 HB2 HS
        apply_assumption
        go_wp2
        go_roundw
        case rel => exact ⟨j + 1, _, by go_num, by omega, HF3.out, HC3.out, HG3.out, HZ3.out⟩
        case measure => simp only [intOf]; omega
      -- END5
    · obtain rfl : j = n := by omega
      have ht : l.take j = l := List.take_of_length_le (by rw [HL.out]; exact Nat.le_refl _)
      rw [ht] at HF
      clear ht HK hlt hj
      have c0 := (HC.out 0 (by omega)).1; have c1 := (HC.out 1 (by omega)).1; have c2 := (HC.out 2 (by omega)).1; have c3 := (HC.out 3 (by omega)).1; have c4 := (HC.out 4 (by omega)).1; have c5 := (HC.out 5 (by omega)).1; have c6 := (HC.out 6 (by omega)).1; have c7 := (HC.out 7 (by omega)).1; have c8 := (HC.out 8 (by omega)).1
      go_wp2
      clear c0 c1 c2 c3 c4 c5 c6 c7 c8 HC
      generalize wr = wo at *
      go_loopw [31] (fun v31 wx => ∃ k : Nat, v31 = .int .i64 k ∧ k ≤ 9 ∧ Hid (∀ i, i < k → (rowI l i).sum = 0) ∧ Hid (Grew wo wx)) (fun v31 _ => 9 - (intOf v31).toNat)
      case atStart => exact ⟨0, rfl, by omega, fun i hi => by omega, grew_refl _⟩
      case round =>
        obtain ⟨k, rfl, hk, HZ0, HG2⟩ := hrel
        have HG3 := Lib.hid (grew_trans HG.out HG2.out)
        by_cases hlt : k < 9
        · have ix := fun w => idx9 v w k hlt
          obtain ⟨A3, c3, hv3, hr3, -, -, -⟩ := ((HF.out.own k).keep HG2.out).form
          rw [hv3] at ix
          have hlen : (rowI l k).length ≤ 100000 := by
            unfold rowI; rw [qtys_len]
            exact Nat.le_trans (List.length_filter_le _ _) (by rw [HL.out]; exact hn)
          have CS := fun w' (g : Grew wr w') => sum_any A3 _ c3 (rowI l k) w' (ints_of_E (hr3.keep g)) (by omega)
          rw [sumV_in (HMN.out k), sumE_in (HMN.out k)] at CS
          have HN1 := Lib.hid (HNO.out k hlt)
          have HZ1 : Hid ((rowI l k).sum = 0 → ∀ i, i < k + 1 → (rowI l i).sum = 0) := fun h i hi => by
            rcases Nat.lt_or_ge i k with h1 | h1
            · exact HZ0.out i h1
            · obtain rfl : i = k := by omega
              exact h
          have i1 : (k : Int) < 9 := by omega
          have i0 : (0 : Int) ≤ (k : Int) := by omega
          clear hr3 HZ0 hv3 HNO HYES HMN
          generalize (rowI l k).length = n3 at *
          generalize (rowI l k).sum = s at *
          by_cases hs : s = 0
          · have HZ2 := Lib.hid (HZ1.out hs)
            subst hs
            rw [capV_in (by decide), capE_in (by decide)] at CS
            clear HZ1 HN1
            go_wp2_with (go_at_call 94; ((with_reducible refine (CS _ (grew_refl _)).mono ?_); rintro e w5 ⟨rfl, hg⟩; have HG5 := Lib.hid hg; clear hg))
            go_roundw
            case rel => exact ⟨k + 1, by go_num, by omega, HZ2.out, grew_trans HG2.out HG5.out⟩
            case measure => simp only [intOf]; omega
          · have HF2 := Lib.hid (HN1.out hs)
            clear HZ1 HN1
            by_cases hms : isMoney s = true
            · rw [capV_in hms, capE_in hms] at CS
              have d1 : (s != 0) = true := by simpa using hs
              clear hms hs
              go_wp2_with (go_at_call 94; ((with_reducible refine (CS _ (grew_refl _)).mono ?_); rintro e w5 ⟨rfl, hg⟩; have HG5 := Lib.hid hg; clear hg))
              go_ret
              exact ⟨ret_b HF2.out.symm, grew_trans HG3.out HG5.out⟩
            · rw [Bool.not_eq_true] at hms
              rw [capV_out hms, capE_out hms] at CS
              clear hms hs
              go_wp2_with (go_at_call 94; ((with_reducible refine (CS _ (grew_refl _)).mono ?_); rintro e w5 ⟨rfl, hg⟩; have HG5 := Lib.hid hg; clear hg))
              go_ret
              exact ⟨ret_b HF2.out.symm, grew_trans HG3.out HG5.out⟩
        · obtain rfl : k = 9 := by omega
          have HF2 := Lib.hid (HYES.out HZ0.out)
          clear HYES HNO
          go_wp2
          go_ret
          exact ⟨ret_b HF2.out.symm, HG3.out⟩
end Go.Proofs.Ytlbfljkhlkjcbaa.NumK
namespace Go.Proofs.Ytlbfljkhlkjcbaa.NumK
open Go.RowKit
set_option linter.unusedVariables false

set_option maxRecDepth 100000 in
set_option maxHeartbeats 2000000 in
theorem rnumbers_any (t : Tr) (w : World) : Calls Try.prog 78 #[vTr t] w fun e w' => e = .returned (.bool (numsT t)) ∧ Grew w w' := by
  have HV : Hid (numsT t = (sizedT t && wi t.1.2.1 1 16 && wi t.1.2.2.1 1 16 && !(decide (t.1.2.1 = t.1.2.2.1)) && wi t.1.2.2.2.1 1 8)) := rfl
  have C1 := fun w => rsized_any t w
  generalize numsT t = V at *
  generalize sizedT t = R1 at *
  obtain ⟨⟨q1, q2, q3, q4, q5, q6⟩, q7⟩ := t
  dsimp only at HV
  have C2 := fun w => rwho_any q2 w
  have C3 := fun w => rwho_any q3 w
  have C5 := fun w => rwithin_any q4 1 8 w
  have HX0 : Hid (OwnC (w.alloc (.cells #[.int .i64 q1, .int .i64 q2, .int .i64 q3, .int .i64 q4, .int .i64 q5, .int .i64 q6, .bool q7] 86)) w.heap.size [.int .i64 q1, .int .i64 q2, .int .i64 q3, .int .i64 q4, .int .i64 q5, .int .i64 q6, .bool q7]) := OwnC.new w [.int .i64 q1, .int .i64 q2, .int .i64 q3, .int .i64 q4, .int .i64 q5, .int .i64 q6, .bool q7] _ _ rfl
  generalize wi q2 1 16 = R2 at *
  generalize wi q3 1 16 = R3 at *
  generalize wi q4 1 8 = R5 at *
  have H4 : Hid ((q2 = q3 ∧ decide (q2 = q3) = true) ∨ ((q2 != q3) = true ∧ decide (q2 = q3) = false)) := by
    by_cases h : q2 = q3
    · exact Or.inl ⟨h, decide_eq_true h⟩
    · exact Or.inr ⟨by simpa using h, decide_eq_false h⟩
  generalize hR4 : decide (q2 = q3) = R4 at *
  clear hR4
  dsimp only [vTr] at C1 ⊢
  have H : (R1 = false) ∨ (R1 = true ∧ R2 = false) ∨ (R1 = true ∧ R2 = true ∧ R3 = false) ∨ (R1 = true ∧ R2 = true ∧ R3 = true) := by cases R1 <;> cases R2 <;> cases R3 <;> simp
  rcases H with rfl | ⟨rfl, rfl⟩ | ⟨rfl, rfl, rfl⟩ | ⟨rfl, rfl, rfl⟩
  · have HF : Hid (V = false) := by show _ = _; rw [HV.out]; rfl
    clear HV H4
    go_enter Try.func78, Try.ntmps78
    go_wp2_with (go_at_call 92; ((with_reducible refine (C1 _).mono ?_); rintro e w1 ⟨rfl, hg⟩; have HG := Lib.hid (own_back hg); clear hg))
    go_ret
    exact ⟨ret_b HF.out.symm, HG.out⟩
  · have HF : Hid (V = false) := by show _ = _; rw [HV.out]; rfl
    clear HV H4
    go_enter Try.func78, Try.ntmps78
    go_wp2_with (first
      | (go_at_call 92; ((with_reducible refine (C1 _).mono ?_); rintro e w1 ⟨rfl, hg⟩; have HG := Lib.hid (own_back hg); have HX := Lib.hid (HX0.out.keep hg); have x1 : w1.cell? ⟨w.heap.size, 1, none⟩ = some (.int .i64 q2) := HX.out.at 1 _ rfl; clear hg))
      | (go_at_call 90; ((with_reducible refine (C2 _).mono ?_); rintro e w2 ⟨rfl, rfl⟩)))
    go_ret
    exact ⟨ret_b HF.out.symm, HG.out⟩
  · have HF : Hid (V = false) := by show _ = _; rw [HV.out]; rfl
    clear HV H4
    go_enter Try.func78, Try.ntmps78
    go_wp2_with (first
      | (go_at_call 92; ((with_reducible refine (C1 _).mono ?_); rintro e w1 ⟨rfl, hg⟩; have HG := Lib.hid (own_back hg); have HX := Lib.hid (HX0.out.keep hg); have x1 : w1.cell? ⟨w.heap.size, 1, none⟩ = some (.int .i64 q2) := HX.out.at 1 _ rfl; have x2 : w1.cell? ⟨w.heap.size, 2, none⟩ = some (.int .i64 q3) := HX.out.at 2 _ rfl; clear hg))
      | (go_at_call 90; ((with_reducible refine (C2 _).mono ?_); rintro e w2 ⟨rfl, rfl⟩))
      | (go_at_call 90; ((with_reducible refine (C3 _).mono ?_); rintro e w2 ⟨rfl, rfl⟩)))
    go_ret
    exact ⟨ret_b HF.out.symm, HG.out⟩
  · rcases H4.out with ⟨rfl, rfl⟩ | ⟨d4, rfl⟩
    · have HF : Hid (V = false) := by show _ = _; rw [HV.out]; rfl
      clear HV H4
      go_enter Try.func78, Try.ntmps78
      go_wp2_with (first
        | (go_at_call 92; ((with_reducible refine (C1 _).mono ?_); rintro e w1 ⟨rfl, hg⟩; have HG := Lib.hid (own_back hg); have HX := Lib.hid (HX0.out.keep hg); have x1 : w1.cell? ⟨w.heap.size, 1, none⟩ = some (.int .i64 q2) := HX.out.at 1 _ rfl; have x2 : w1.cell? ⟨w.heap.size, 2, none⟩ = some (.int .i64 q2) := HX.out.at 2 _ rfl; clear hg))
        | (go_at_call 90; ((with_reducible refine (C2 _).mono ?_); rintro e w2 ⟨rfl, rfl⟩)))
      go_ret
      exact ⟨ret_b HF.out.symm, HG.out⟩
    · have HF : Hid (V = R5) := by show _ = _; rw [HV.out]; rfl
      clear HV H4
      go_enter Try.func78, Try.ntmps78
      go_wp2_with (first
        | (go_at_call 92; ((with_reducible refine (C1 _).mono ?_); rintro e w1 ⟨rfl, hg⟩; have HG := Lib.hid (own_back hg); have HX := Lib.hid (HX0.out.keep hg); have x1 : w1.cell? ⟨w.heap.size, 1, none⟩ = some (.int .i64 q2) := HX.out.at 1 _ rfl; have x2 : w1.cell? ⟨w.heap.size, 2, none⟩ = some (.int .i64 q3) := HX.out.at 2 _ rfl; have x3 : w1.cell? ⟨w.heap.size, 3, none⟩ = some (.int .i64 q4) := HX.out.at 3 _ rfl; clear hg))
        | (go_at_call 90; ((with_reducible refine (C2 _).mono ?_); rintro e w2 ⟨rfl, rfl⟩))
        | (go_at_call 90; ((with_reducible refine (C3 _).mono ?_); rintro e w2 ⟨rfl, rfl⟩))
        | (go_at_call 34; ((with_reducible refine (C5 _).mono ?_); rintro e w2 ⟨rfl, rfl⟩)))
      go_ret
      exact ⟨ret_b HF.out.symm, HG.out⟩
end Go.Proofs.Ytlbfljkhlkjcbaa.NumK
namespace Go.Proofs.Ytlbfljkhlkjcbaa.NumK
open Go.RowKit
set_option linter.unusedVariables false

theorem okPo_alt (x : Po) : okPo x = (okK (x.1, x.2.1) && wi x.2.2.1 (-1099511627776) 1099511627776 && isMoney x.2.2.2 && !(noneP x.2.2.1 x.2.2.2)) := rfl
theorem ok_klt {a b : Po} (ha : okPo a = true) (hb : okPo b = true) : kltB (a.1, a.2.1) (b.1, b.2.1) = decide (noPo a < noPo b) :=
  klt_no (a := keyP a) (b := keyP b) ((okPo_iff a).1 ha).1 ((okPo_iff b).1 hb).1
theorem steps_ok {l : List Po} {j : Nat} (h : (List.range j).all (stepOK okPo noPo po0 l) = true) {i : Nat} (hi : i < j) : okPo (l.getD i po0) = true := by
  have := (List.all_eq_true.1 h) i (List.mem_range.2 hi)
  unfold stepOK at this
  rw [Bool.and_eq_true] at this
  exact this.1
theorem steps_all {l : List Po} (h : (List.range l.length).all (stepOK okPo noPo po0 l) = true) : ∀ x ∈ l, okPo x = true := fun x hx => by
  obtain ⟨i, hi, rfl⟩ := List.getElem_of_mem hx
  rw [← getD_at l po0 i hi]
  exact steps_ok h hi

set_option maxRecDepth 100000 in
set_option maxHeartbeats 4000000 in
theorem rightPoss_any (A : Option Addr) (n c : Nat) (l : List Po) (w : World) (h : RowE enPo w A n l) (hn : n ≤ 100000) :
    Calls Try.prog 68 #[.slice A n c] w fun e w' => e = .returned (.bool (rightPs l)) ∧ Grew w w' := by
  have HI := Lib.hid h
  have HL := Lib.hid h.len
  have HR : Hid (rightPs l = ((List.range n).all (stepOK okPo noPo po0 l) && flatI l)) := by show _ = _; rw [← h.len]; rfl
  have HEV : Hid ((List.range n).all (stepOK okPo noPo po0 l) = true → ∀ w', Grew w w' → Calls Try.prog 86 #[.slice A n c] w' fun e w'' => e = .returned (.bool (flatI l)) ∧ Grew w' w'') := fun hs w' g => by
    have h2 : ∀ x ∈ l, okPo x = true := steps_all (by rw [h.len]; exact hs)
    exact beven_any A n c l w' (h.keep g) (fun x hx => ((okPo_iff x).1 (h2 x hx)).1) (fun x hx => (isMoney_iff _).2 (by have := (okQ_iff _).1 ((okPo_iff x).1 (h2 x hx)).2.1; omega)) hn
  generalize flatI l = FL at *
  generalize rightPs l = R at *
  clear h
  go_enter Try.func68, Try.ntmps68
  go_wp2
  go_loopw [7] (fun v wr => ∃ j : Nat, v = .int .i64 j ∧ j ≤ n ∧ Hid ((List.range j).all (stepOK okPo noPo po0 l) = true) ∧ Hid (Grew w wr)) (fun v _ => n - (intOf v).toNat)
  case atStart => exact ⟨0, rfl, by omega, rfl, grew_refl _⟩
  case round =>
    obtain ⟨j, rfl, hj, HM, HG⟩ := hrel
    by_cases hlt : j < n
    · obtain ⟨b, o, rfl, hb, hc⟩ := (HI.out.keep HG.out).po hlt
      have HN := Lib.hid (range_all_no (stepOK okPo noPo po0 l) j n hlt)
      have HY := Lib.hid (range_all_succ (stepOK okPo noPo po0 l) j)
      have HST : Hid (stepOK okPo noPo po0 l j = (okPo (l.getD j po0) && (decide (j = 0) || decide (noPo (l.getD (j - 1) po0) < noPo (l.getD j po0))))) := rfl
      have HKL : Hid (0 < j → okPo (l.getD j po0) = true → kltB ((l.getD (j - 1) po0).1, (l.getD (j - 1) po0).2.1) ((l.getD j po0).1, (l.getD j po0).2.1) = decide (noPo (l.getD (j - 1) po0) < noPo (l.getD j po0))) := fun h0 hx => ok_klt (steps_ok HM.out (by omega)) hx
      have HOK := Lib.hid (okPo_alt (l.getD j po0))
      have CE := fun w => empty_any (l.getD j po0) w
      obtain ⟨a0, a1, a2, a3⟩ := hc j hlt
      have HPB : Hid (0 < j → CPo wr b (o + (j - 1) * 4) (l.getD (j - 1) po0)) := fun h0 => hc (j - 1) (by omega)
      have HB := Lib.hid hb
      clear hc hb
      have i0 : (0 : Int) ≤ (j : Int) := by omega
      have i1 : (j : Int) < (n : Int) := by omega
      generalize stepOK okPo noPo po0 l j = st at *
      generalize decide (noPo (l.getD (j - 1) po0) < noPo (l.getD j po0)) = lt at *
      generalize okPo (l.getD j po0) = ok at *
      generalize l.getD j po0 = x at *
      generalize l.getD (j - 1) po0 = p at *
      obtain ⟨q1, q2, q3, q4⟩ := x
      dsimp only at a0 a1 a2 a3 HKL HOK CE
      dsimp only [vPo] at CE
      have C1 := fun w => permitted_any q1 q2 w
      have C2 := fun w => bwithin_any q3 (-1099511627776) 1099511627776 w
      have C3 := fun w => right_any (some ⟨w.heap.size, 0, none⟩) 1 1 [q4] (w.alloc (.cells #[.int .i64 q4] 3)) (ints1 w q4 _) (by decide)
      simp only [List.all_cons, List.all_nil, Bool.and_true] at C3
      dsimp only [vKy] at C1
      generalize okK (q1, q2) = R1 at *
      generalize wi q3 (-1099511627776) 1099511627776 = R2 at *
      generalize isMoney q4 = R3 at *
      generalize noneP q3 q4 = R4 at *
      have HX0 : Hid (OwnC (wr.alloc (.cells #[.int .i64 q1, .int .i64 q2, .int .i64 q3, .int .i64 q4] 34)) wr.heap.size [.int .i64 q1, .int .i64 q2, .int .i64 q3, .int .i64 q4]) := OwnC.new wr [.int .i64 q1, .int .i64 q2, .int .i64 q3, .int .i64 q4] _ _ rfl
      have H : (R1 = false) ∨ (R1 = true ∧ R2 = false) ∨ (R1 = true ∧ R2 = true ∧ R3 = false) ∨ (R1 = true ∧ R2 = true ∧ R3 = true ∧ R4 = true) ∨ (R1 = true ∧ R2 = true ∧ R3 = true ∧ R4 = false) := by cases R1 <;> cases R2 <;> cases R3 <;> cases R4 <;> simp
      rcases H with rfl | ⟨rfl, rfl⟩ | ⟨rfl, rfl, rfl⟩ | ⟨rfl, rfl, rfl, rfl⟩ | ⟨rfl, rfl, rfl, rfl⟩
      · have HF : Hid (R = false) := by show _ = _; rw [HR.out, ← HN.out (by rw [HST.out, HOK.out]; rfl)]; rfl
        clear HN HY HST HKL HOK HPB HM HR HEV
        go_wp2_with (go_at_call 83; ((with_reducible refine (C1 _).mono ?_); rintro e w1 ⟨rfl, hg⟩; have HG1 := Lib.hid (grew_trans HG.out (own_back hg)); clear hg))
        go_ret
        exact ⟨ret_b HF.out.symm, HG1.out⟩
      · have HF : Hid (R = false) := by show _ = _; rw [HR.out, ← HN.out (by rw [HST.out, HOK.out]; rfl)]; rfl
        clear HN HY HST HKL HOK HPB HM HR HEV
        go_wp2_with (first
          | (go_at_call 83; ((with_reducible refine (C1 _).mono ?_); rintro e w1 ⟨rfl, hg⟩; have HG1 := Lib.hid (grew_trans HG.out (own_back hg)); have x2 : w1.cell? ⟨wr.heap.size, 2, none⟩ = some (.int .i64 q3) := (HX0.out.keep hg).at 2 _ rfl; clear hg))
          | (go_at_call 67; ((with_reducible refine (C2 _).mono ?_); rintro e w2 ⟨rfl, rfl⟩)))
        go_ret
        exact ⟨ret_b HF.out.symm, HG1.out⟩
      · have HF : Hid (R = false) := by show _ = _; rw [HR.out, ← HN.out (by rw [HST.out, HOK.out]; rfl)]; rfl
        clear HN HY HST HKL HOK HPB HM HR HEV
        go_wp2_with (first
          | (go_at_call 83; ((with_reducible refine (C1 _).mono ?_); rintro e w1 ⟨rfl, hg⟩; have HG1 := Lib.hid (grew_trans HG.out (own_back hg)); have x2 : w1.cell? ⟨wr.heap.size, 2, none⟩ = some (.int .i64 q3) := (HX0.out.keep hg).at 2 _ rfl; have x3 : w1.cell? ⟨wr.heap.size, 3, none⟩ = some (.int .i64 q4) := (HX0.out.keep hg).at 3 _ rfl; clear hg))
          | (go_at_call 67; ((with_reducible refine (C2 _).mono ?_); rintro e w2 ⟨rfl, rfl⟩))
          | (go_at_call 30; ((with_reducible refine (C3 _).mono ?_); rintro e w2 ⟨rfl, rfl⟩)))
        go_ret
        exact ⟨ret_b HF.out.symm, grew_trans HG1.out (grew_alloc _ _ _)⟩
      · have HF : Hid (R = false) := by show _ = _; rw [HR.out, ← HN.out (by rw [HST.out, HOK.out]; rfl)]; rfl
        clear HN HY HST HKL HOK HPB HM HR HEV
        go_wp2_with (first
          | (go_at_call 83; ((with_reducible refine (C1 _).mono ?_); rintro e w1 ⟨rfl, hg⟩; have HG1 := Lib.hid (grew_trans HG.out (own_back hg)); have HX1 := Lib.hid (HX0.out.keep hg); have hN1 := HX1.out.lt; have x0 : w1.cell? ⟨wr.heap.size, 0, none⟩ = some (.int .i64 q1) := HX1.out.at 0 _ rfl; have x1 : w1.cell? ⟨wr.heap.size, 1, none⟩ = some (.int .i64 q2) := HX1.out.at 1 _ rfl; have x2 : w1.cell? ⟨wr.heap.size, 2, none⟩ = some (.int .i64 q3) := HX1.out.at 2 _ rfl; have x3 : w1.cell? ⟨wr.heap.size, 3, none⟩ = some (.int .i64 q4) := HX1.out.at 3 _ rfl; clear hg))
          | (go_at_call 67; ((with_reducible refine (C2 _).mono ?_); rintro e w2 ⟨rfl, rfl⟩))
          | (go_at_call 30; ((with_reducible refine (C3 _).mono ?_); rintro e w2 ⟨rfl, rfl⟩))
          | (go_at_call 84; ((with_reducible refine (CE _).mono ?_); rintro e w3 ⟨rfl, hg⟩; have HG3 := Lib.hid (grew_trans (grew_trans HG1.out (grew_alloc _ _ _)) hg); clear hg)))
        go_ret
        exact ⟨ret_b HF.out.symm, HG3.out⟩
      · have hok : ok = true := HOK.out
        subst hok
        have HKL2 : Hid (0 < j → kltB (p.1, p.2.1) (q1, q2) = lt) := fun h0 => HKL.out h0 rfl
        clear HOK HKL
        go_upto_region 6 with (first
          | (go_at_call 83; ((with_reducible refine (C1 _).mono ?_); rintro e w1 ⟨rfl, hg⟩; have HG1 := Lib.hid (grew_trans HG.out (own_back hg)); have HX1 := Lib.hid (HX0.out.keep hg); have hN1 := HX1.out.lt; have x0 : w1.cell? ⟨wr.heap.size, 0, none⟩ = some (.int .i64 q1) := HX1.out.at 0 _ rfl; have x1 : w1.cell? ⟨wr.heap.size, 1, none⟩ = some (.int .i64 q2) := HX1.out.at 1 _ rfl; have x2 : w1.cell? ⟨wr.heap.size, 2, none⟩ = some (.int .i64 q3) := HX1.out.at 2 _ rfl; have x3 : w1.cell? ⟨wr.heap.size, 3, none⟩ = some (.int .i64 q4) := HX1.out.at 3 _ rfl; have HGB := Lib.hid (own_back hg); clear hg))
          | (go_at_call 67; ((with_reducible refine (C2 _).mono ?_); rintro e w2 ⟨rfl, rfl⟩))
          | (go_at_call 30; ((with_reducible refine (C3 _).mono ?_); rintro e w2 ⟨rfl, rfl⟩))
          | (go_at_call 84; ((with_reducible refine (CE _).mono ?_); rintro e w3 ⟨rfl, hg⟩; have HG3 := Lib.hid (grew_trans (grew_trans HG1.out (grew_alloc _ _ _)) hg); have HX3 := Lib.hid ((HX1.out.keep (grew_alloc _ _ _)).keep hg); have HGC := Lib.hid (grew_trans (grew_trans HGB.out (grew_alloc _ _ _)) hg); clear hg x0 x1 x2 x3 hN1)))
        clear C1 C2 C3 CE HG1 HX1 HGB HX0
        have y0 := grew_every (w := w3) (S := fun w' => w'.cell? ⟨wr.heap.size, 0, none⟩ = some (.int .i64 q1)) (fun w' g => (HX3.out.keep g).at 0 _ rfl)
        have y1 := grew_every (w := w3) (S := fun w' => w'.cell? ⟨wr.heap.size, 1, none⟩ = some (.int .i64 q2)) (fun w' g => (HX3.out.keep g).at 1 _ rfl)
        cases j with
        | zero =>
          have HM2 := Lib.hid (HY.out.trans (by rw [HST.out]))
          clear HN HY HST HM HPB HKL2
          refine wp_region_grew (by kernel_rfl) (by kernel_rfl) ?_
          repeat (go_big_quiet_step (fail))
          refine wpQuiet_nil ?_
          intro w5 hw'
          have HG5 := Lib.hid (grew_of hw')
          clear hw' y0 y1
          go_wp2
          go_roundw
          case rel => exact ⟨1, by go_num, by omega, HM2.out, grew_trans HG3.out HG5.out⟩
          case measure => simp only [intOf]; omega
        | succ i =>
          obtain ⟨e0, e1, e2, e3⟩ := HPB.out (by omega)
          rw [show i + 1 - 1 = i from rfl] at e0 e1
          have HST2 : Hid (st = lt) := by show _ = _; rw [HST.out]; simp
          have q5 : IntKind.i64.wrap (((i + 1 : Nat) : Int) - 1) = (i : Int) := by rw [IntKind.wrap_i64]; omega
          have q6 : (0 : Int) < ((i + 1 : Nat) : Int) := by omega
          have q7 : (i : Int) < (n : Int) := by omega
          have q8 : (0 : Int) ≤ (i : Int) := by omega
          obtain ⟨p1, p2, p3, p4⟩ := p
          dsimp only at e0 e1
          have HKL3 := Lib.hid (HKL2.out (by omega))
          dsimp only at HKL3
          have CL := fun w' (g : Grew w3 w') => less_any p1 p2 q1 q2 w'
          dsimp only [vKy] at CL
          rw [HKL3.out] at CL
          have z0 := grew_every (w := w3) (S := fun w' => w'.cell? ⟨b, o + i * 4, none⟩ = some (.int .i64 p1)) (fun w' g => (grew_cell (grew_trans HGC.out g) (p := ⟨b, _, none⟩) HB.out).trans e0)
          have z1 := grew_every (w := w3) (S := fun w' => w'.cell? ⟨b, o + i * 4 + 1, none⟩ = some (.int .i64 p2)) (fun w' g => (grew_cell (grew_trans HGC.out g) (p := ⟨b, _, none⟩) HB.out).trans e1)
          clear HPB HST HKL2 HKL3 e0 e1 e2 e3
          cases lt
          · have HF : Hid (R = false) := by show _ = _; rw [HR.out, ← HN.out (by rw [HST2.out])]; rfl
            clear HN HY HST2 HM HR
            refine wp_region_grew (by kernel_rfl) (by kernel_rfl) ?_
            repeat (go_big_quiet_step (with_reducible exact calls_every CL))
            refine wpQuiet_nil ?_
            intro w5 hw'
            have HG5 := Lib.hid (grew_of hw')
            clear hw' y0 y1 z0 z1
            go_wp2
            go_ret
            exact ⟨ret_b HF.out.symm, grew_trans HG3.out HG5.out⟩
          · have HM2 := Lib.hid (HY.out.trans (by rw [HST2.out, HM.out]))
            clear HN HY HST2 HM
            refine wp_region_grew (by kernel_rfl) (by kernel_rfl) ?_
            repeat (go_big_quiet_step (with_reducible exact calls_every CL))
            refine wpQuiet_nil ?_
            intro w5 hw'
            have HG5 := Lib.hid (grew_of hw')
            clear hw' y0 y1 z0 z1
            go_wp2
            go_roundw
            case rel => exact ⟨i + 1 + 1, by go_num, by omega, HM2.out, grew_trans HG3.out HG5.out⟩
            case measure => simp only [intOf]; omega
    · obtain rfl : j = n := by omega
      have CV := HEV.out HM.out
      have HF : Hid (R = FL) := by show _ = _; rw [HR.out, HM.out]; rfl
      clear HEV HR HM
      go_wp2_with (go_at_call 86; ((with_reducible refine (CV _ HG.out).mono ?_); rintro e w1 ⟨rfl, hg⟩; have HG1 := Lib.hid (grew_trans HG.out hg); clear hg))
      go_ret
      exact ⟨ret_b HF.out.symm, HG1.out⟩
end Go.Proofs.Ytlbfljkhlkjcbaa.NumK
namespace Go.Proofs.Ytlbfljkhlkjcbaa.NumK
open Go.RowKit
set_option linter.unusedVariables false

theorem calls_same {P : Program} {f : FuncId} {args : Array Value} {w : World} {v : Value} (h : Calls P f args w fun e w' => e = .returned v ∧ w = w') : Calls P f args w fun e w' => e = .returned v ∧ Grew w w' :=
  h.mono fun e w' ⟨he, hw⟩ => ⟨he, hw ▸ grew_refl _⟩

set_option maxRecDepth 100000 in
set_option maxHeartbeats 4000000 in
theorem rightTrades_any (A : Option Addr) (n c : Nat) (l : List Tr) (next : Int) (w : World) (h : RowE enTr w A n l) (hn : n ≤ 100000) :
    Calls Try.prog 69 #[.slice A n c, .int .i64 next] w fun e w' => e = .returned (.bool (rightTs next l)) ∧ Grew w w' := by
  have HI := Lib.hid h
  have HL := Lib.hid h.len
  have HR : Hid (rightTs next l = ((List.range n).all (stepOK (okTr next) noTr tr0 l) && decide (n ≤ 128))) := by show _ = _; rw [← h.len]; rfl
  generalize rightTs next l = R at *
  clear h
  go_enter Try.func69, Try.ntmps69
  go_wp2
  go_loopw [9] (fun v wr => ∃ j : Nat, v = .int .i64 j ∧ j ≤ n ∧ Hid ((List.range j).all (stepOK (okTr next) noTr tr0 l) = true) ∧ Hid (Grew w wr)) (fun v _ => n - (intOf v).toNat)
  case atStart => exact ⟨0, rfl, by omega, rfl, grew_refl _⟩
  case round =>
    obtain ⟨j, rfl, hj, HM, HG⟩ := hrel
    by_cases hlt : j < n
    · obtain ⟨b, o, rfl, hb, hc⟩ := (HI.out.keep HG.out).tr hlt
      have HN := Lib.hid (range_all_no (stepOK (okTr next) noTr tr0 l) j n hlt)
      have HY := Lib.hid (range_all_succ (stepOK (okTr next) noTr tr0 l) j)
      have HST : Hid (stepOK (okTr next) noTr tr0 l j = ((numsT (l.getD j tr0) && wi (l.getD j tr0).1.1 1 next) && (decide (j = 0) || decide ((l.getD (j - 1) tr0).1.1 < (l.getD j tr0).1.1)))) := rfl
      have CR := fun w => rightTrade_any (l.getD j tr0) w
      obtain ⟨a0, a1, a2, a3, a4, a5, a6⟩ := hc j hlt
      have HPB : Hid (0 < j → CTr wr b (o + (j - 1) * 7) (l.getD (j - 1) tr0)) := fun h0 => hc (j - 1) (by omega)
      have HB := Lib.hid hb
      clear hc hb
      have i0 : (0 : Int) ≤ (j : Int) := by omega
      have i1 : (j : Int) < (n : Int) := by omega
      generalize stepOK (okTr next) noTr tr0 l j = st at *
      generalize numsT (l.getD j tr0) = R1 at *
      generalize l.getD j tr0 = x at *
      generalize l.getD (j - 1) tr0 = p at *
      obtain ⟨⟨q1, q2, q3, q4, q5, q6⟩, q7⟩ := x
      dsimp only at a0 a1 a2 a3 a4 a5 a6 HST
      dsimp only [vTr] at CR
      have CW := fun w => calls_same (bwithin_any q1 1 next w)
      generalize wi q1 1 next = R2 at *
      have HX0 : Hid (OwnC (wr.alloc (.cells #[.int .i64 q1, .int .i64 q2, .int .i64 q3, .int .i64 q4, .int .i64 q5, .int .i64 q6, .bool q7] 86)) wr.heap.size [.int .i64 q1, .int .i64 q2, .int .i64 q3, .int .i64 q4, .int .i64 q5, .int .i64 q6, .bool q7]) := OwnC.new wr [.int .i64 q1, .int .i64 q2, .int .i64 q3, .int .i64 q4, .int .i64 q5, .int .i64 q6, .bool q7] _ _ rfl
      have HG0 : Hid (Grew wr (wr.alloc (.cells #[.int .i64 q1, .int .i64 q2, .int .i64 q3, .int .i64 q4, .int .i64 q5, .int .i64 q6, .bool q7] 86))) := grew_alloc _ _ _
      go_upto_region 4 with fail
      generalize wr.alloc (.cells #[.int .i64 q1, .int .i64 q2, .int .i64 q3, .int .i64 q4, .int .i64 q5, .int .i64 q6, .bool q7] 86) = w0 at *
      clear a0 a1 a2 a3 a4 a5 a6
      have y0 := grew_every (w := w0) (S := fun w' => w'.cell? ⟨wr.heap.size, 0, none⟩ = some (.int .i64 q1)) (fun w' g => (HX0.out.keep g).at 0 _ rfl)
      have y1 := grew_every (w := w0) (S := fun w' => w'.cell? ⟨wr.heap.size, 1, none⟩ = some (.int .i64 q2)) (fun w' g => (HX0.out.keep g).at 1 _ rfl)
      have y2 := grew_every (w := w0) (S := fun w' => w'.cell? ⟨wr.heap.size, 2, none⟩ = some (.int .i64 q3)) (fun w' g => (HX0.out.keep g).at 2 _ rfl)
      have y3 := grew_every (w := w0) (S := fun w' => w'.cell? ⟨wr.heap.size, 3, none⟩ = some (.int .i64 q4)) (fun w' g => (HX0.out.keep g).at 3 _ rfl)
      have y4 := grew_every (w := w0) (S := fun w' => w'.cell? ⟨wr.heap.size, 4, none⟩ = some (.int .i64 q5)) (fun w' g => (HX0.out.keep g).at 4 _ rfl)
      have y5 := grew_every (w := w0) (S := fun w' => w'.cell? ⟨wr.heap.size, 5, none⟩ = some (.int .i64 q6)) (fun w' g => (HX0.out.keep g).at 5 _ rfl)
      have y6 := grew_every (w := w0) (S := fun w' => w'.cell? ⟨wr.heap.size, 6, none⟩ = some (.bool q7)) (fun w' g => (HX0.out.keep g).at 6 _ rfl)
      have C1 := fun w' (g : Grew w0 w') => CR w'
      have C2 := fun w' (g : Grew w0 w') => CW w'
      clear CR CW
      have H : (R1 = false) ∨ (R1 = true ∧ R2 = false) ∨ (R1 = true ∧ R2 = true) := by cases R1 <;> cases R2 <;> simp
      rcases H with rfl | ⟨rfl, rfl⟩ | ⟨rfl, rfl⟩
      · have HF : Hid (R = false) := by show _ = _; rw [HR.out, ← HN.out (by rw [HST.out]; rfl)]; rfl
        clear HN HY HST HM HR HPB
        refine wp_region_grew (by kernel_rfl) (by kernel_rfl) ?_
        repeat (go_big_quiet_step (with_reducible (first | exact calls_every C1 | exact calls_every C2)))
        refine wpQuiet_nil ?_
        intro w5 hw'
        have HG5 := Lib.hid (grew_of hw')
        clear hw' y0 y1 y2 y3 y4 y5 y6
        go_wp2
        go_ret
        exact ⟨ret_b HF.out.symm, grew_trans HG.out (grew_trans HG0.out HG5.out)⟩
      · have HF : Hid (R = false) := by show _ = _; rw [HR.out, ← HN.out (by rw [HST.out]; rfl)]; rfl
        clear HN HY HST HM HR HPB
        refine wp_region_grew (by kernel_rfl) (by kernel_rfl) ?_
        repeat (go_big_quiet_step (with_reducible (first | exact calls_every C1 | exact calls_every C2)))
        refine wpQuiet_nil ?_
        intro w5 hw'
        have HG5 := Lib.hid (grew_of hw')
        clear hw' y0 y1 y2 y3 y4 y5 y6
        go_wp2
        go_ret
        exact ⟨ret_b HF.out.symm, grew_trans HG.out (grew_trans HG0.out HG5.out)⟩
      · cases j with
        | zero =>
          have HM2 := Lib.hid (HY.out.trans (by rw [HST.out]))
          clear HN HY HST HM HPB
          refine wp_region_grew (by kernel_rfl) (by kernel_rfl) ?_
          repeat (go_big_quiet_step (with_reducible (first | exact calls_every C1 | exact calls_every C2)))
          refine wpQuiet_nil ?_
          intro w5 hw'
          have HG5 := Lib.hid (grew_of hw')
          clear hw' y0 y1 y2 y3 y4 y5 y6
          go_wp2
          go_roundw
          case rel => exact ⟨1, by go_num, by omega, HM2.out, grew_trans HG.out (grew_trans HG0.out HG5.out)⟩
          case measure => simp only [intOf]; omega
        | succ i =>
          obtain ⟨e0, -⟩ := HPB.out (by omega)
          rw [show i + 1 - 1 = i from rfl] at e0
          have HST2 : Hid (st = decide (p.1.1 < q1)) := by show _ = _; rw [HST.out]; simp
          have q5 : IntKind.i64.wrap (((i + 1 : Nat) : Int) - 1) = (i : Int) := by rw [IntKind.wrap_i64]; omega
          have q6 : (0 : Int) < ((i + 1 : Nat) : Int) := by omega
          have q7 : (i : Int) < (n : Int) := by omega
          have q8 : (0 : Int) ≤ (i : Int) := by omega
          generalize p.1.1 = p1 at *
          have z0 := grew_every (w := w0) (S := fun w' => w'.cell? ⟨b, o + i * 7, none⟩ = some (.int .i64 p1)) (fun w' g => (grew_cell (grew_trans HG0.out g) (p := ⟨b, _, none⟩) HB.out).trans e0)
          clear HPB HST e0
          by_cases hnp : p1 < q1
          · have HM2 := Lib.hid (HY.out.trans (by rw [HST2.out, decide_eq_true hnp, HM.out]))
            have q9 : ¬ (p1 ≥ q1) := by omega
            clear HN HY HST2 HM hnp
            refine wp_region_grew (by kernel_rfl) (by kernel_rfl) ?_
            repeat (go_big_quiet_step (with_reducible (first | exact calls_every C1 | exact calls_every C2)))
            refine wpQuiet_nil ?_
            intro w5 hw'
            have HG5 := Lib.hid (grew_of hw')
            clear hw' y0 y1 y2 y3 y4 y5 y6 z0
            go_wp2
            go_roundw
            case rel => exact ⟨i + 1 + 1, by go_num, by omega, HM2.out, grew_trans HG.out (grew_trans HG0.out HG5.out)⟩
            case measure => simp only [intOf]; omega
          · have HF : Hid (R = false) := by show _ = _; rw [HR.out, ← HN.out (by rw [HST2.out, decide_eq_false hnp])]; rfl
            have q9 : p1 ≥ q1 := by omega
            clear HN HY HST2 HM HR hnp
            refine wp_region_grew (by kernel_rfl) (by kernel_rfl) ?_
            repeat (go_big_quiet_step (with_reducible (first | exact calls_every C1 | exact calls_every C2)))
            refine wpQuiet_nil ?_
            intro w5 hw'
            have HG5 := Lib.hid (grew_of hw')
            clear hw' y0 y1 y2 y3 y4 y5 y6 z0
            go_wp2
            go_ret
            exact ⟨ret_b HF.out.symm, grew_trans HG.out (grew_trans HG0.out HG5.out)⟩
    · obtain rfl : j = n := by omega
      by_cases h8 : j ≤ 128
      · have HF : Hid (R = true) := by show _ = _; rw [HR.out, HM.out, decide_eq_true h8]; rfl
        have d8 : (j : Int) ≤ 128 := by omega
        clear HR HM h8
        go_wp2
        go_ret
        exact ⟨ret_b HF.out.symm, HG.out⟩
      · have HF : Hid (R = false) := by show _ = _; rw [HR.out, HM.out, decide_eq_false h8]; rfl
        have d8 : ¬ (j : Int) ≤ 128 := by omega
        clear HR HM h8
        go_wp2
        go_ret
        exact ⟨ret_b HF.out.symm, HG.out⟩

end Go.Proofs.Ytlbfljkhlkjcbaa.NumK
namespace Go.Proofs.Ytlbfljkhlkjcbaa.NumK
open Go.RowKit
set_option linter.unusedVariables false

abbrev vBk (next : Int) (A1 A2 : Option Addr) (n1 n2 c1 c2 : Nat) : Value := .agg #[.int .i64 next, .slice A1 n1 c1, .slice A2 n2 c2]
/-- What of a book's slices is known whoever owns them. -/
structure InB (w : World) (b : Bk) (A1 A2 : Option Addr) (n1 n2 c1 c2 : Nat) : Prop where
  t : RowE enTr w A1 n1 b.2.1
  p : RowE enPo w A2 n2 b.2.2
  k1 : A1 = none → c1 = 0
  k2 : A2 = none → c2 = 0
  l1 : n1 ≤ c1 ∧ c1 ≤ 9223372036854775807
  l2 : n2 ≤ c2 ∧ c2 ≤ 9223372036854775807
structure OwnB (w : World) (base : Nat) (b : Bk) (A1 A2 : Option Addr) (c1 c2 : Nat) : Prop where
  t : OwnE enTr w base 86 (.slice A1 b.2.1.length c1) b.2.1
  p : OwnE enPo w base 34 (.slice A2 b.2.2.length c2) b.2.2
  ne : Apart A1 A2
section
variable {w w' : World} {base : Nat} {b : Bk} {A1 A2 : Option Addr} {n1 n2 c1 c2 : Nat}
theorem InB.keep (h : InB w b A1 A2 n1 n2 c1 c2) (g : Grew w w') : InB w' b A1 A2 n1 n2 c1 c2 := ⟨h.t.keep g, h.p.keep g, h.k1, h.k2, h.l1, h.l2⟩
theorem OwnB.keep (h : OwnB w base b A1 A2 c1 c2) (g : Grew w w') : OwnB w' base b A1 A2 c1 c2 := ⟨h.t.keep g, h.p.keep g, h.ne⟩
theorem OwnB.mono {b2 : Nat} (h : OwnB w base b A1 A2 c1 c2) (hb : b2 ≤ base) : OwnB w b2 b A1 A2 c1 c2 := ⟨h.t.mono hb, h.p.mono hb, h.ne⟩
theorem OwnB.in (h : OwnB w base b A1 A2 c1 c2) : InB w b A1 A2 b.2.1.length b.2.2.length c1 c2 :=
  ⟨(own_form h.t).1, (own_form h.p).1, (own_form h.t).2.1, (own_form h.p).2.1, (own_form h.t).2.2, (own_form h.p).2.2⟩
theorem OwnB.nil (w : World) (base : Nat) : OwnB w base bk0 none none 0 0 := ⟨OwnE.nil _ _ _ _, OwnE.nil _ _ _ _, fun x y h => by cases h⟩
end
/-- A book that a call hands back. -/
def BookP (b : Bk) (w : World) (e : Ending) (w' : World) : Prop :=
  ∃ A1 A2 c1 c2, e = .returned (vBk b.1 A1 A2 b.2.1.length b.2.2.length c1 c2) ∧ OwnB w' w.heap.size b A1 A2 c1 c2 ∧ Grew w w'
/-- A book and an error. -/
def BookE (b : Bk) (n : Int) (w : World) (e : Ending) (w' : World) : Prop :=
  ∃ A1 A2 c1 c2, e = .returned (.tuple #[vBk b.1 A1 A2 b.2.1.length b.2.2.length c1 c2, .int .i64 n]) ∧ OwnB w' w.heap.size b A1 A2 c1 c2 ∧ Grew w w'
/-- A book, a number and an error. -/
def BookN (b : Bk) (no n : Int) (w : World) (e : Ending) (w' : World) : Prop :=
  ∃ A1 A2 c1 c2, e = .returned (.tuple #[vBk b.1 A1 A2 b.2.1.length b.2.2.length c1 c2, .int .i64 no, .int .i64 n]) ∧ OwnB w' w.heap.size b A1 A2 c1 c2 ∧ Grew w w'

def chkB (b : Bk) : Int := if rightB b then 0 else 14
theorem chkB_yes {b : Bk} (h : rightB b = true) : chkB b = 0 := by unfold chkB; rw [if_pos h]
theorem chkB_no {b : Bk} (h : rightB b = false) : chkB b = 14 := by unfold chkB; rw [h]; rfl

set_option maxRecDepth 100000 in
set_option maxHeartbeats 1000000 in
theorem bcheck_any (b : Bk) (A1 A2 : Option Addr) (n1 n2 c1 c2 : Nat) (w : World) (h : InB w b A1 A2 n1 n2 c1 c2) (hn : n1 ≤ 100000 ∧ n2 ≤ 100000) :
    Calls Try.prog 39 #[vBk b.1 A1 A2 n1 n2 c1 c2] w fun e w' => e = .returned (.int .i64 (chkB b)) ∧ Grew w w' := by
  have C1 := fun w' => bwithin_any b.1 0 1099511627776 w'
  have C2 := fun w' (g : Grew w w') => rightPoss_any A2 n2 c2 b.2.2 w' (h.p.keep g) hn.2
  have C3 := fun w' (g : Grew w w') => rightTrades_any A1 n1 c1 b.2.1 b.1 w' (h.t.keep g) hn.1
  have HR : Hid (chkB b = if (wi b.1 0 1099511627776 && rightTs b.1 b.2.1 && rightPs b.2.2) = true then 0 else 14) := rfl
  have HX0 : Hid (OwnC (w.alloc (.cells #[.int .i64 b.1, .slice A1 n1 c1, .slice A2 n2 c2] 30)) w.heap.size [.int .i64 b.1, .slice A1 n1 c1, .slice A2 n2 c2]) := OwnC.new w [.int .i64 b.1, .slice A1 n1 c1, .slice A2 n2 c2] _ _ rfl
  clear h
  generalize chkB b = V at *
  generalize rightTs b.1 b.2.1 = R3 at *
  generalize rightPs b.2.2 = R2 at *
  generalize b.1 = nx at *
  generalize wi nx 0 1099511627776 = R1 at *
  dsimp only [vBk]
  have H : (R1 = false) ∨ (R1 = true ∧ R2 = false) ∨ (R1 = true ∧ R2 = true) := by cases R1 <;> cases R2 <;> simp
  rcases H with rfl | ⟨rfl, rfl⟩ | ⟨rfl, rfl⟩
  · have HF : Hid (V = 14) := by show _ = _; rw [HR.out]; rfl
    clear HR
    go_enter Try.func39, Try.ntmps39
    go_wp2_with (go_at_call 67; ((with_reducible refine (C1 _).mono ?_); rintro e w1 ⟨rfl, rfl⟩))
    go_ret
    exact ⟨ret_i HF.out.symm, grew_alloc _ _ _⟩
  · have HF : Hid (V = 14) := by show _ = _; rw [HR.out]; cases R3 <;> rfl
    clear HR
    go_enter Try.func39, Try.ntmps39
    go_wp2_with (first
      | (go_at_call 67; ((with_reducible refine (C1 _).mono ?_); rintro e w1 ⟨rfl, rfl⟩))
      | (go_at_call 68; ((with_reducible refine (C2 _ (grew_alloc _ _ _)).mono ?_); rintro e w2 ⟨rfl, hg⟩; have HG2 := Lib.hid (own_back hg); clear hg)))
    go_ret
    exact ⟨ret_i HF.out.symm, HG2.out⟩
  · cases R3
    all_goals
      (have HF := Lib.hid HR.out
       simp only [Bool.and_true, Bool.and_false, if_true, Bool.false_eq_true, if_false] at HF
       clear HR
       go_enter Try.func39, Try.ntmps39
       go_wp2_with (first
         | (go_at_call 67; ((with_reducible refine (C1 _).mono ?_); rintro e w1 ⟨rfl, rfl⟩))
         | (go_at_call 68; ((with_reducible refine (C2 _ (grew_alloc _ _ _)).mono ?_); rintro e w2 ⟨rfl, hg⟩; have HG2 := Lib.hid (own_back hg); have x0 : w2.cell? ⟨w.heap.size, 0, none⟩ = some (.int .i64 nx) := (HX0.out.keep hg).at 0 _ rfl; have x1 : w2.cell? ⟨w.heap.size, 1, none⟩ = some (.slice A1 n1 c1) := (HX0.out.keep hg).at 1 _ rfl; clear hg))
         | (go_at_call 69; ((with_reducible refine (C3 _ HG2.out).mono ?_); rintro e w3 ⟨rfl, hg⟩; have HG3 := Lib.hid (grew_trans HG2.out hg); clear hg)))
       go_ret
       exact ⟨ret_i HF.out.symm, HG3.out⟩)

/-! ### slices.Clone -/
theorem cloneTr_any (A : Option Addr) (n c : Nat) (l : List Tr) (w : World) (h : RowE enTr w A n l) (hA : A = none → c = 0) (hn : n ≤ 1000000) :
    Calls Try.prog 40 #[.slice A n c] w fun e w' => ∃ A' c', e = .returned (.slice A' n c') ∧ OwnE enTr w' w.heap.size 86 (.slice A' n c') l ∧ Grew w w' := by
  have q22 : ∀ (w : World) (a : Option Addr) (n c n' c' : Nat), (binOp .eql 27 (.slice a n c) (.slice none n' c')).run Try.prog w = .ok (.bool a.isNone) w := fun w a n c n' c' => Lib.run_eql_slice_nil w _ _ a n c n' c' Try.underlying27
  have HL := Lib.hid h.len
  cases A with
  | none =>
    obtain rfl := hA rfl
    obtain rfl : n = 0 := by
      rcases Nat.eq_zero_or_pos n with h1 | h1
      · exact h1
      · obtain ⟨b, o, e, _⟩ := h.2 h1; cases e
    obtain rfl := List.eq_nil_of_length_eq_zero h.len
    go_enter Try.func40, Try.ntmps40
    go_wp2
    go_ret
    exact ⟨none, 0, rfl, OwnE.nil _ _ _ _, grew_refl _⟩
  | some ad =>
    have HI := Lib.hid h
    clear h hA
    obtain ⟨ab, ao, asp⟩ := ad
    go_enter Try.func40, Try.ntmps40
    go_wp2_with (at_builtin; refine (wpList_append_E rfl _ _ 27 86 (vTr tr0) 56 rfl Try.underlying27 info_tr rfl w.heap.size _ [] rfl (OwnE.empty enTr w _ _ (Nat.le_refl _)) _ n c l rfl (by intro h; cases h) (HI.out.keep (grew_alloc _ _ _)) (by simp; unfold maxLen; omega) (by simp; omega) (by simp) ?_); intro v' w' ho hb; rw [List.nil_append] at ho; have HP := Lib.hid ho; have HB : Hid (Grew w w') := Below.trans (grew_alloc _ _ _) hb; clear ho hb)
    go_ret
    obtain ⟨A', c', rfl, -⟩ := HP.out.form
    rw [HL.out] at HP
    exact ⟨A', c', by rw [HL.out]; rfl, HP.out, HB.out⟩
end Go.Proofs.Ytlbfljkhlkjcbaa.NumK
namespace Go.Proofs.Ytlbfljkhlkjcbaa.NumK
open Go.RowKit
set_option linter.unusedVariables false

def runE (r : Rl) (b : Bk) : Int := if rightR r = true then (if rightB b = true then firstM r b.2.2 else 14) else 14
def runB (r : Rl) (b : Bk) : Bk := if runE r b = 0 then (b.1, b.2.1, markL r b.2.2) else bk0
def runD (r : Rl) (b : Bk) : List Du := if runE r b = 0 then duesM r b.2.2 else []
def RunP (r : Rl) (b : Bk) (w : World) (e : Ending) (w' : World) : Prop :=
  ∃ A1 A2 A3 c1 c2 c3, e = .returned (.tuple #[vBk (runB r b).1 A1 A2 (runB r b).2.1.length (runB r b).2.2.length c1 c2, .slice A3 (runD r b).length c3, .int .i64 (runE r b)]) ∧ OwnB w' w.heap.size (runB r b) A1 A2 c1 c2 ∧ OwnE enDu w' w.heap.size 67 (.slice A3 (runD r b).length c3) (runD r b) ∧ Apart A3 A1 ∧ Apart A3 A2 ∧ Grew w w'

theorem runP_no {r : Rl} {b : Bk} {n : Int} (h : runE r b = n) (hn : n ≠ 0) {w w' : World} (g : Grew w w') : RunP r b w (.returned (.tuple #[.agg #[.int .i64 0, .slice none 0 0, .slice none 0 0], .slice none 0 0, .int .i64 n])) w' := by
  have e1 : runB r b = bk0 := by unfold runB; rw [h, if_neg hn]
  have e2 : runD r b = [] := by unfold runD; rw [h, if_neg hn]
  unfold RunP
  rw [e1, e2, h]
  exact ⟨none, none, none, 0, 0, 0, rfl, OwnB.nil _ _, OwnE.nil _ _ _ _, (fun x y h => by cases h), (fun x y h => by cases h), g⟩
theorem runP_yes {r : Rl} {b : Bk} (h1 : rightR r = true) (h2 : rightB b = true) (h3 : firstM r b.2.2 = 0) {w w' : World} {A1 A2 A3 : Option Addr} {c1 c2 c3 : Nat} (hb : OwnB w' w.heap.size (b.1, b.2.1, markL r b.2.2) A1 A2 c1 c2) (hd : OwnE enDu w' w.heap.size 67 (.slice A3 (duesM r b.2.2).length c3) (duesM r b.2.2)) (a1 : Apart A3 A1) (a2 : Apart A3 A2) (g : Grew w w') :
    RunP r b w (.returned (.tuple #[vBk b.1 A1 A2 b.2.1.length (markL r b.2.2).length c1 c2, .slice A3 (duesM r b.2.2).length c3, .int .i64 0])) w' := by
  have e0 : runE r b = 0 := by unfold runE; rw [if_pos h1, if_pos h2, h3]
  have e1 : runB r b = (b.1, b.2.1, markL r b.2.2) := by unfold runB; rw [if_pos e0]
  have e2 : runD r b = duesM r b.2.2 := by unfold runD; rw [if_pos e0]
  unfold RunP
  rw [e1, e2, e0]
  exact ⟨A1, A2, A3, c1, c2, c3, rfl, hb, hd, a1, a2, g⟩
theorem runE_no1 {r : Rl} {b : Bk} (h : rightR r = false) : runE r b = 14 := by unfold runE; rw [h]; rfl
theorem runE_no2 {r : Rl} {b : Bk} (h1 : rightR r = true) (h : rightB b = false) : runE r b = 14 := by unfold runE; rw [if_pos h1, h]; rfl
theorem runE_at {r : Rl} {b : Bk} (h1 : rightR r = true) (h2 : rightB b = true) : runE r b = firstM r b.2.2 := by unfold runE; rw [if_pos h1, if_pos h2]
/-- At the first thing amiss. -/
theorem first_getD {r : Rl} {l : List Po} {j : Nat} (hj : j < l.length) (h0 : ∀ i, i < j → stepM r (l.getD i po0) = 0) (h : stepM r (l.getD j po0) ≠ 0) : firstM r l = stepM r (l.getD j po0) := by
  rw [List.getD_eq_getElem?_getD, List.getElem?_eq_getElem hj] at h ⊢
  refine firstM_at j hj (fun i hi => ?_) h
  have := h0 i hi
  rwa [List.getD_eq_getElem?_getD, List.getElem?_eq_getElem (by omega)] at this
theorem first_all {r : Rl} {l : List Po} (h0 : ∀ i, i < l.length → stepM r (l.getD i po0) = 0) : firstM r l = 0 := by
  refine firstM_ok.2 fun p hp => ?_
  obtain ⟨i, hi, rfl⟩ := List.getElem_of_mem hp
  have := h0 i hi
  rwa [List.getD_eq_getElem?_getD, List.getElem?_eq_getElem hi] at this
theorem take_getD {l : List Po} {j : Nat} (hj : j < l.length) : l.take (j + 1) = l.take j ++ [l.getD j po0] := by
  rw [List.take_succ_eq_append_getElem hj, List.getD_eq_getElem?_getD, List.getElem?_eq_getElem hj]; rfl
theorem dues_succ (r : Rl) {l : List Po} {j : Nat} (hj : j < l.length) : duesM r (l.take (j + 1)) = duesM r (l.take j) ++ [dueP r (l.getD j po0)] := by
  rw [take_getD hj]; unfold duesM; rw [List.map_append]; rfl
theorem mark_no (r : Rl) {l : List Po} {j : Nat} (hj : j < l.length) (h : (l.getD j po0).2.2.1 = 0 ∧ costP r (l.getD j po0) = 0) : markL r (l.take (j + 1)) = markL r (l.take j) := by
  rw [take_getD hj, mark_snoc, if_pos h, List.append_nil]
theorem mark_yes (r : Rl) {l : List Po} {j : Nat} (hj : j < l.length) (h : ¬ ((l.getD j po0).2.2.1 = 0 ∧ costP r (l.getD j po0) = 0)) : markL r (l.take (j + 1)) = markL r (l.take j) ++ [((l.getD j po0).1, (l.getD j po0).2.1, (l.getD j po0).2.2.1, costP r (l.getD j po0))] := by
  rw [take_getD hj, mark_snoc, if_neg h]
theorem mark_len (r : Rl) (l : List Po) (j : Nat) : (markL r (l.take j)).length ≤ j := by
  unfold markL
  exact Nat.le_trans (List.length_filterMap_le _ _) (by rw [List.length_take]; omega)
theorem dues_len (r : Rl) {l : List Po} {j : Nat} (hj : j ≤ l.length) : (duesM r (l.take j)).length = j := by
  unfold duesM; rw [List.length_map, List.length_take]; omega
theorem mark_all (r : Rl) (l : List Po) {n : Nat} (h : l.length = n) : markL r (l.take n) = markL r l ∧ duesM r (l.take n) = duesM r l := by
  rw [List.take_of_length_le (by omega)]; exact ⟨rfl, rfl⟩

/-- What Worth is asked of a right book and roll may be asked. -/
theorem may_of {r : Rl} {p : Po} (h1 : rightR r = true) (h2 : okPo p = true) (h3 : hasI r p = true) : mayW p (instOf r p).1.2.2.1 (priceI (instOf r p)) = true := by
  obtain ⟨_, q2, q3, _⟩ := (okPo_iff p).1 h2
  have hm := (find_mem noIn in0 r.2.1 p.2.1 h3).1
  have hk : okIn (instOf r p) = true := by
    unfold rightR at h1
    rw [Bool.and_eq_true, Bool.and_eq_true] at h1
    obtain ⟨j, hj, e, _⟩ := find_at noIn in0 r.2.1 p.2.1 h3
    have := h1.2.1
    unfold rightL at this
    rw [List.all_eq_true] at this
    have := this j (List.mem_range.2 hj)
    unfold stepOK at this
    rw [Bool.and_eq_true, e] at this
    exact this.1
  unfold okIn okIn6 at hk
  simp only [Bool.and_eq_true] at hk
  obtain ⟨_, ⟨⟨⟨⟨⟨_, _⟩, k3⟩, _⟩, k5⟩, k6⟩⟩ := hk
  unfold mayW
  simp only [Bool.and_eq_true]
  refine ⟨⟨⟨q2, q3⟩, k3⟩, ?_⟩
  unfold priceI
  split
  · exact k6
  · exact k5
theorem right_may {r : Rl} {b : Bk} (h1 : rightR r = true) (h2 : rightB b = true) {j : Nat} (hj : j < b.2.2.length) : hasI r (b.2.2.getD j po0) = true → mayW (b.2.2.getD j po0) (instOf r (b.2.2.getD j po0)).1.2.2.1 (priceI (instOf r (b.2.2.getD j po0))) = true := by
  refine may_of h1 (((rightPs_iff _).1 ((rightB_iff b).1 h2).2.2).1 _ ?_)
  rw [List.getD_eq_getElem?_getD, List.getElem?_eq_getElem hj]
  exact List.getElem_mem hj
end Go.Proofs.Ytlbfljkhlkjcbaa.NumK
