/- The reference's Sum (Ref01C's, over RefIntA). -/
import Derived.Test.YtahioajpmlochaaGreatRH12
import Derived.Test.YtahioajpmlochaaGreatRH3
import Derived.Deep.RegionHeld3
import Derived.Test.YtahioajpmlochaaGreatRH2
namespace Go.Proofs.YtahioajpmlochaaGreat.NumK
open Go.RowKit

set_option maxRecDepth 100000 in
set_option maxHeartbeats 2000000 in
theorem refSum_any (A : Option Addr) (n c : Nat) (xs : List Int) (w : World) (hz : Wides w A n xs) (hw : ∀ x ∈ xs, isWide x = true) (hn : n ≤ 1000000) :
    Calls Tryz.prog 49 #[.slice A n c] w fun e w' => e = .returned (.tuple #[(.agg #[.int .i64 (hi64 (wsV xs.sum)), .int .u64 (lo64 (wsV xs.sum))]), .bool (isWide xs.sum)]) ∧ Grew w w' := by
  have HZ := Lib.hid hz
  have HW := Lib.hid hw
  clear hz hw
  go_enter Tryz.func49, Tryz.ntmps49
  go_wp2
  go_loop [4, 5, 6, 7] (fun t h l i => ∃ (k : Nat) (T H L : Int), k ≤ n ∧ i = .int .i64 k ∧ t = .int .i64 T ∧ h = .int .u64 H ∧ l = .int .u64 L ∧ Hid (T * 340282366920938463463374607431768211456 + H * 18446744073709551616 + L = (xs.take k).sum) ∧
      0 ≤ H ∧ H < 18446744073709551616 ∧ 0 ≤ L ∧ L < 18446744073709551616 ∧ -(k : Int) ≤ T ∧ T ≤ k) (fun _ _ _ i => n - (intOf i).toNat)
  case atStart => exact ⟨0, 0, 0, 0, Nat.zero_le _, rfl, rfl, rfl, rfl, rfl, by omega, by omega, by omega, by omega, by omega, by omega⟩
  case round =>
    obtain ⟨k, T, H, L, hk, rfl, rfl, rfl, rfl, HS, h0, h1, l0, l1, t0, t1⟩ := hrel
    by_cases hlt : k < n
    · obtain ⟨b, o, rfl, hb, hc⟩ := HZ.out.2 (by omega)
      obtain ⟨hc0, hc1⟩ := hc k hlt
      have hst := sum_take_succ xs k (by have := HZ.out.1; omega)
      have hwx : isWide (xs.getD k 0) = true := HW.out _ (by rw [List.getD_eq_getElem?_getD, List.getElem?_eq_getElem (by have := HZ.out.1; omega)]; exact List.getElem_mem _)
      generalize xs.getD k 0 = x at *
      have bx := lo_bounds x
      have bh := hi_bounds x hwx
      have ex := w_eq x
      obtain ⟨s1, hs1⟩ : ∃ s, s = (L + lo64 x + 0) % 18446744073709551616 := ⟨_, rfl⟩
      obtain ⟨d1, hd1⟩ : ∃ s, s = (L + lo64 x + 0) / 18446744073709551616 := ⟨_, rfl⟩
      have A1 := add64_named L (lo64 x) 0 s1 d1 (by omega) (by omega) (by omega) (by omega) hs1 hd1
      have ew : 0 ≤ IntKind.u64.wrap (hi64 x) ∧ IntKind.u64.wrap (hi64 x) < 18446744073709551616 ∧ (hi64 x < 0 → IntKind.u64.wrap (hi64 x) = hi64 x + 18446744073709551616) ∧ (0 ≤ hi64 x → IntKind.u64.wrap (hi64 x) = hi64 x) := by rw [IntKind.wrap_u64]; omega
      obtain ⟨s2, hs2⟩ : ∃ s, s = (H + IntKind.u64.wrap (hi64 x) + d1) % 18446744073709551616 := ⟨_, rfl⟩
      obtain ⟨d2, hd2⟩ : ∃ s, s = (H + IntKind.u64.wrap (hi64 x) + d1) / 18446744073709551616 := ⟨_, rfl⟩
      have A2 := add64_named H (IntKind.u64.wrap (hi64 x)) d1 s2 d2 (by omega) (by omega) (by omega) (by omega) hs2 hd2
      have f1 : 0 ≤ s1 ∧ s1 < 18446744073709551616 := by omega
      have f2 : 0 ≤ s2 ∧ s2 < 18446744073709551616 := by omega
      have f3 : 0 ≤ d2 ∧ d2 ≤ 1 := by omega
      have HN : Hid ((hi64 x < 0 → (T + d2 - 1) * 340282366920938463463374607431768211456 + s2 * 18446744073709551616 + s1 = (xs.take (k + 1)).sum) ∧ (0 ≤ hi64 x → (T + d2) * 340282366920938463463374607431768211456 + s2 * 18446744073709551616 + s1 = (xs.take (k + 1)).sum)) := by
        have := HS.out
        rw [hst]
        exact ⟨fun _ => by omega, fun _ => by omega⟩
      generalize eh : IntKind.u64.wrap (hi64 x) = hw at *
      clear hst hwx bx bh ex ew hs1 hd1 hs2 hd2 hc
      generalize hi64 x = hh at *
      generalize lo64 x = ll at *
      obtain ⟨f1, f2'⟩ := f1
      obtain ⟨f3', f4⟩ := f2
      obtain ⟨f5, f6⟩ := f3
      by_cases hs : hh < 0
      · go_wp2_with (first | simp only [A1] | simp only [A2])
        go_round
        case rel => exact ⟨k + 1, T + d2 - 1, s2, s1, by omega, by go_num, rfl, rfl, rfl, HN.out.1 hs, by omega, by omega, by omega, by omega, by omega, by omega⟩
        case measure => simp [intOf]; omega
      · go_wp2_with (first | simp only [A1] | simp only [A2])
        go_round
        case rel => exact ⟨k + 1, T + d2, s2, s1, by omega, by go_num, rfl, rfl, rfl, HN.out.2 (by omega), by omega, by omega, by omega, by omega, by omega, by omega⟩
        case measure => simp [intOf]; omega
    · have hkn : k = n := by omega
      subst hkn
      have ht : xs.take k = xs := List.take_of_length_le (by have := HZ.out.1; omega)
      have hS := HS.out
      rw [ht] at hS
      have hwr : wrap64 H = if H < 9223372036854775808 then H else H - 18446744073709551616 := by unfold wrap64; split <;> omega
      have hwid : isWide xs.sum = true ↔ (T = 0 ∧ H < 9223372036854775808) ∨ (T = -1 ∧ ¬ H < 9223372036854775808) := by rw [isWide_iff]; omega
      have hval : (T = 0 ∧ H < 9223372036854775808) ∨ (T = -1 ∧ ¬ H < 9223372036854775808) → wrap64 H = hi64 xs.sum ∧ L = lo64 xs.sum := fun h => by
        have := w_unique xs.sum (wrap64 H) L (by rw [hwr]; split <;> omega) l0 l1
        exact ⟨this.1.symm, this.2.symm⟩
      have hz0 : (0 : Int) = hi64 0 ∧ (0 : Int) = lo64 0 := by decide
      have HD := Lib.hid hwid
      have HV := Lib.hid hval
      have HZ0 := Lib.hid hz0
      have hg : (H < 9223372036854775808 → 0 ≤ wrap64 H) ∧ (¬ H < 9223372036854775808 → wrap64 H < 0) := by rw [hwr]; split <;> omega
      clear ht hS hwr hwid hval hz0 hlt t0 t1 h0 h1 l0 l1
      generalize eg : wrap64 H = g at *
      by_cases c1 : T = 0
      · subst c1
        by_cases c2 : H < 9223372036854775808
        · have Y := Lib.hid (HD.out.2 (Or.inl ⟨rfl, c2⟩))
          have V := Lib.hid (HV.out (Or.inl ⟨rfl, c2⟩))
          have hh := hg.1 c2
          clear hg c2
          go_wp2
          exact bodyPost_ret (v := .tuple #[.agg #[.int .i64 g, .int .u64 L], .bool true]) (by simp [results, Tryz.results49, go_sem]) rfl ⟨ret_wb (by rw [wsV, if_pos Y.out]; exact V.out.1) (by rw [wsV, if_pos Y.out]; exact V.out.2) Y.out.symm, grew_alloc _ _ _⟩
        · have Y : Hid (isWide xs.sum = false) := by show _ = _; rw [← Bool.not_eq_true, HD.out]; omega
          have hh := hg.2 c2
          clear hg c2
          go_wp2
          exact bodyPost_ret (v := .tuple #[.agg #[.int .i64 0, .int .u64 0], .bool false]) (by simp [results, Tryz.results49, go_sem]) rfl ⟨ret_wb (by rw [wsV, Y.out]; exact HZ0.out.1) (by rw [wsV, Y.out]; exact HZ0.out.2) Y.out.symm, grew_alloc _ _ _⟩
      · have d1 : (T == 0) = false := by simpa using c1
        by_cases c3 : T = -1
        · subst c3
          by_cases c2 : H < 9223372036854775808
          · have Y : Hid (isWide xs.sum = false) := by show _ = _; rw [← Bool.not_eq_true, HD.out]; omega
            have hh := hg.1 c2
            clear hg c2 c1
            go_wp2
            exact bodyPost_ret (v := .tuple #[.agg #[.int .i64 0, .int .u64 0], .bool false]) (by simp [results, Tryz.results49, go_sem]) rfl ⟨ret_wb (by rw [wsV, Y.out]; exact HZ0.out.1) (by rw [wsV, Y.out]; exact HZ0.out.2) Y.out.symm, grew_alloc _ _ _⟩
          · have Y := Lib.hid (HD.out.2 (Or.inr ⟨rfl, c2⟩))
            have V := Lib.hid (HV.out (Or.inr ⟨rfl, c2⟩))
            have hh := hg.2 c2
            clear hg c2 c1
            go_wp2
            exact bodyPost_ret (v := .tuple #[.agg #[.int .i64 g, .int .u64 L], .bool true]) (by simp [results, Tryz.results49, go_sem]) rfl ⟨ret_wb (by rw [wsV, if_pos Y.out]; exact V.out.1) (by rw [wsV, if_pos Y.out]; exact V.out.2) Y.out.symm, grew_alloc _ _ _⟩
        · have Y : Hid (isWide xs.sum = false) := by show _ = _; rw [← Bool.not_eq_true, HD.out]; omega
          have d2 : (T == -1) = false := by simpa using c3
          clear hg c1 c3
          go_wp2
          exact bodyPost_ret (v := .tuple #[.agg #[.int .i64 0, .int .u64 0], .bool false]) (by simp [results, Tryz.results49, go_sem]) rfl ⟨ret_wb (by rw [wsV, Y.out]; exact HZ0.out.1) (by rw [wsV, Y.out]; exact HZ0.out.2) Y.out.symm, grew_alloc _ _ _⟩
end Go.Proofs.YtahioajpmlochaaGreat.NumK
namespace Go.Proofs.YtahioajpmlochaaGreat.NumK
open Go.RowKit

set_option maxRecDepth 100000 in
set_option maxHeartbeats 2000000 in
theorem add_any (A : Option Addr) (n c : Nat) (zs : List Int) (w : World) (hz : Ints w A n zs) (hb : ∀ z ∈ zs, -9223372036854775808 ≤ z ∧ z ≤ 9223372036854775807) (hn : n ≤ 100000) :
    Calls Tryz.prog 24 #[.slice A n c] w fun e w' => e = .returned (.tuple #[.int .i64 (intV zs.sum), .bool (isMoney zs.sum)]) ∧ Grew w w' := by
  have HZ := Lib.hid hz
  have HB := Lib.hid hb
  clear hz hb
  go_enter Tryz.func24, Tryz.ntmps24
  go_wp2
  go_loopw [4, 5] (fun v i wr => ∃ k : Nat, k ≤ n ∧ i = .int .i64 k ∧ wr.ownsRow w.heap.size 84 2 v k ((zs.take k).flatMap wcells) ∧ Below w.heap.size w wr) (fun _ i _ => n - (intOf i).toNat)
  case atStart => exact ⟨0, Nat.zero_le _, rfl, by simpa using World.ownsRow_nil _ _ _ _, Below.refl _ _⟩
  case round =>
    obtain ⟨k, hk, rfl, hown, hbel⟩ := hrel
    by_cases hlt : k < n
    · obtain ⟨b0, o0, rfl, hb0, hc⟩ := HZ.out.2 (by omega)
      have hcell : wr.cell? ⟨b0, o0 + k, none⟩ = some (.int .i64 (zs.getD k 0)) := by
        rw [← hc k (by omega)]
        exact hbel.cell (p := ⟨b0, o0 + k, none⟩) hb0
      have hzb := HB.out (zs.getD k 0) (by rw [List.getD_eq_getElem?_getD, List.getElem?_eq_getElem (by have := HZ.out.1; omega)]; exact List.getElem_mem _)
      have HX := Lib.hid (take_map_succ zs k (by have := HZ.out.1; omega))
      have HO := Lib.hid hown
      have HBW := Lib.hid hbel
      clear hc hown hbel
      generalize zs.getD k 0 = y at *
      have C := fun w => of_any y w hzb
      obtain ⟨y1, y2⟩ := hzb
      go_wp2_with (first
        | (go_at_call 48; ((with_reducible refine (C _).mono ?_); rintro e w2 ⟨rfl, hg2⟩; have HG2 := Lib.hid hg2; clear hg2))
        | (at_builtin; refine wpList_append_wide rfl _ _ rfl w.heap.size _ k _ rfl ((own_keep HO.out HG2.out).alloc _) w2.heap.size 1 y rfl (by simp) (by simp) (by omega) (Nat.le_trans HBW.out.size (Nat.le_trans HG2.out.size (by simp))) ?_; intro v' w' hv hb'; have HV := Lib.hid hv; have HB' := Lib.hid hb'; clear hv hb'))
      go_roundw
      case rel =>
        refine ⟨k + 1, by omega, by go_num, ?_, ?_⟩
        · rw [← HX.out]; exact HV.out
        · exact ((HBW.out.trans (HG2.out.mono HBW.out.size)).alloc (Nat.le_trans HBW.out.size HG2.out.size) _).trans HB'.out
      case measure => simp [intOf]; omega
    · have hkn : k = n := by omega
      subst hkn
      have ht : zs.take k = zs := List.take_of_length_le (by have := HZ.out.1; omega)
      rw [ht] at hown
      obtain ⟨A3, c3, rfl, hW⟩ := wides_of_own hown
      have hs := sum_wide zs HB.out (by have := HZ.out.1; omega)
      have C := refSum_any A3 k c3 zs wr hW (fun x hx => by have := HB.out x hx; rw [isWide_iff]; omega) (by omega)
      rw [wsV, if_pos hs, hs] at C
      have D := fun w => refInt_any zs.sum w
      have HBW := Lib.hid hbel
      clear ht hown hW hs hbel hlt
      go_wp2_with (first
        | (go_at_call 49; ((with_reducible refine C.mono ?_); rintro e w2 ⟨rfl, hg2⟩; have HG2 := Lib.hid hg2; clear hg2))
        | (go_at_call 50; ((with_reducible refine (D _).mono ?_); rintro e w3 ⟨rfl, hg3⟩; have HG3 := Lib.hid hg3; clear hg3)))
      go_ret2
      exact ⟨rfl, Below.trans (HBW.out.trans (HG2.out.mono HBW.out.size)) (Below.mono (grew_trans (grew_alloc _ _ _) HG3.out) (Nat.le_trans HBW.out.size HG2.out.size))⟩
end Go.Proofs.YtahioajpmlochaaGreat.NumK
namespace Go.Proofs.YtahioajpmlochaaGreat.NumK
open Go.RowKit
set_option linter.unusedVariables false

def qtys (l : List Po) : List Int := l.map (·.2.2.1)
def csts (l : List Po) : List Int := l.map (·.2.2.2)
theorem qtys_len (l : List Po) : (qtys l).length = l.length := by simp [qtys]
theorem csts_len (l : List Po) : (csts l).length = l.length := by simp [csts]
theorem qtys_succ (l : List Po) (j : Nat) (h : j < l.length) : qtys (l.take (j + 1)) = qtys (l.take j) ++ [(l.getD j po0).2.2.1] := by
  unfold qtys; rw [List.take_succ_eq_append_getElem h, List.map_append, getD_at l po0 j h]; rfl
theorem csts_succ (l : List Po) (j : Nat) (h : j < l.length) : csts (l.take (j + 1)) = csts (l.take j) ++ [(l.getD j po0).2.2.2] := by
  unfold csts; rw [List.take_succ_eq_append_getElem h, List.map_append, getD_at l po0 j h]; rfl
theorem okAm_all (l : List Po) : l.all okAm = ((qtys l).all isMoney && (csts l).all isMoney) := by
  induction l with
  | nil => rfl
  | cons x l ih =>
    rw [List.all_cons, ih]
    show (isMoney x.2.2.1 && isMoney x.2.2.2 && _) = ((isMoney x.2.2.1 && (qtys l).all isMoney) && (isMoney x.2.2.2 && (csts l).all isMoney))
    cases isMoney x.2.2.1 <;> cases isMoney x.2.2.2 <;> simp
theorem money_in (zs : List Int) (h : zs.all isMoney = true) : ∀ z ∈ zs, -9223372036854775808 ≤ z ∧ z ≤ 9223372036854775807 := fun z hz => by
  have := (isMoney_iff z).1 ((List.all_eq_true.1 h) z hz); omega

/-- What the sums tell. -/
def SumPost (l : List Po) (w : World) (e : Ending) (w' : World) : Prop := e = .returned (.tuple #[.int .i64 (sumPQ l), .int .i64 (sumPC l), .int .i64 (sumPE l)]) ∧ Grew w w'
theorem sumP_arg {l : List Po} (h : l.all okAm = false) : sumPE l = 3 ∧ sumPQ l = 0 ∧ sumPC l = 0 := by
  have : sumPE l = 3 := by unfold sumPE; rw [h]; rfl
  refine ⟨this, ?_, ?_⟩
  · unfold sumPQ; rw [this]; rfl
  · unfold sumPC; rw [this]; rfl
theorem sumP_big {l : List Po} (h : l.all okAm = true) (h2 : (isMoney (qtys l).sum && isMoney (csts l).sum) = false) : sumPE l = 1 ∧ sumPQ l = 0 ∧ sumPC l = 0 := by
  have : sumPE l = 1 := by unfold sumPE; rw [if_pos h]; show (if (isMoney (qtys l).sum && isMoney (csts l).sum) = true then (0 : Int) else 1) = 1; rw [h2]; rfl
  refine ⟨this, ?_, ?_⟩
  · unfold sumPQ; rw [this]; rfl
  · unfold sumPC; rw [this]; rfl
theorem sumP_ok {l : List Po} (h : l.all okAm = true) (h2 : isMoney (qtys l).sum = true) (h3 : isMoney (csts l).sum = true) : sumPE l = 0 ∧ sumPQ l = (qtys l).sum ∧ sumPC l = (csts l).sum := by
  have : sumPE l = 0 := by unfold sumPE; rw [if_pos h]; show (if (isMoney (qtys l).sum && isMoney (csts l).sum) = true then (0 : Int) else 1) = 0; rw [h2, h3]; rfl
  refine ⟨this, ?_, ?_⟩
  · unfold sumPQ; rw [if_pos this]; rfl
  · unfold sumPC; rw [if_pos this]; rfl
theorem post_arg {l : List Po} (h : l.all okAm = false) (w w' : World) (g : Grew w w') : SumPost l w (.returned (.tuple #[.int .i64 0, .int .i64 0, .int .i64 3])) w' := by
  obtain ⟨h1, h2, h3⟩ := sumP_arg h
  exact ⟨by rw [h1, h2, h3], g⟩
theorem post_big {l : List Po} (h : l.all okAm = true) (h2 : (isMoney (qtys l).sum && isMoney (csts l).sum) = false) (w w' : World) (g : Grew w w') : SumPost l w (.returned (.tuple #[.int .i64 0, .int .i64 0, .int .i64 1])) w' := by
  obtain ⟨h1, h2, h3⟩ := sumP_big h h2
  exact ⟨by rw [h1, h2, h3], g⟩
theorem post_ok {l : List Po} (h : l.all okAm = true) (h2 : isMoney (qtys l).sum = true) (h3 : isMoney (csts l).sum = true) (w w' : World) (g : Grew w w') : SumPost l w (.returned (.tuple #[.int .i64 (qtys l).sum, .int .i64 (csts l).sum, .int .i64 0])) w' := by
  obtain ⟨h1, h2, h3⟩ := sumP_ok h h2 h3
  exact ⟨by rw [h1, h2, h3], g⟩

end Go.Proofs.YtahioajpmlochaaGreat.NumK
namespace Go.Proofs.YtahioajpmlochaaGreat.NumK
open Go.RowKit
set_option linter.unusedVariables false

theorem filter_take_succ {α : Type} (p : α → Bool) (l : List α) (d : α) (j : Nat) (h : j < l.length) : (l.take (j + 1)).filter p = (l.take j).filter p ++ (if p (l.getD j d) then [l.getD j d] else []) := by
  rw [List.take_succ_eq_append_getElem h, List.filter_append, getD_at l d j h]
  congr 1
  cases hp : p l[j] <;> simp [hp]
/-- The quantities of an instrument, so far. -/
def rowI (l : List Po) (k : Nat) : List Int := qtys (l.filter (isI (k : Int)))
theorem rowI_sum (l : List Po) (k : Nat) : (rowI l k).sum = qI l k := rfl
theorem rowI_succ (l : List Po) (j m : Nat) (h : j < l.length) (hm : (l.getD j po0).2.1 = (m : Int)) : ∀ k, upd (rowI (l.take j)) m (rowI (l.take j) m ++ [(l.getD j po0).2.2.1]) k = rowI (l.take (j + 1)) k := by
  intro k
  unfold rowI
  rw [filter_take_succ _ l po0 j h]
  by_cases e : k = m
  · subst e
    rw [upd_at]
    have : isI (k : Int) (l.getD j po0) = true := by unfold isI; rw [hm]; simp
    rw [if_pos this]
    unfold qtys; rw [List.map_append]; rfl
  · rw [upd_ne _ _ e]
    have : isI (k : Int) (l.getD j po0) = false := by unfold isI; rw [hm]; simp; omega
    rw [this]
    simp
theorem rowI_len (l : List Po) (j k : Nat) : (rowI (l.take j) k).length ≤ j := by
  unfold rowI
  rw [qtys_len]
  exact Nat.le_trans (List.length_filter_le _ _) (by rw [List.length_take]; omega)
theorem rowI_money (l : List Po) (k : Nat) (h : ∀ x ∈ l, isMoney x.2.2.1 = true) : (rowI l k).all isMoney = true := by
  rw [List.all_eq_true]
  intro z hz
  unfold rowI qtys at hz
  obtain ⟨x, hx, rfl⟩ := List.mem_map.1 hz
  exact h x (List.mem_filter.1 hx).1
theorem idx9 (v : Nat → Value) (w : World) (k : Nat) (hk : k < 9) : (Instr.index 128 (.agg #[v 0, v 1, v 2, v 3, v 4, v 5, v 6, v 7, v 8]) (.int .i64 (k : Int))).run Tryz.prog w = .ok (v k) w := by
  have h0 : (Instr.index 128 (.agg #[v 0, v 1, v 2, v 3, v 4, v 5, v 6, v 7, v 8]) (.int .i64 0)).run Tryz.prog w = .ok (v 0) w := by kernel_rfl
  have h1 : (Instr.index 128 (.agg #[v 0, v 1, v 2, v 3, v 4, v 5, v 6, v 7, v 8]) (.int .i64 1)).run Tryz.prog w = .ok (v 1) w := by kernel_rfl
  have h2 : (Instr.index 128 (.agg #[v 0, v 1, v 2, v 3, v 4, v 5, v 6, v 7, v 8]) (.int .i64 2)).run Tryz.prog w = .ok (v 2) w := by kernel_rfl
  have h3 : (Instr.index 128 (.agg #[v 0, v 1, v 2, v 3, v 4, v 5, v 6, v 7, v 8]) (.int .i64 3)).run Tryz.prog w = .ok (v 3) w := by kernel_rfl
  have h4 : (Instr.index 128 (.agg #[v 0, v 1, v 2, v 3, v 4, v 5, v 6, v 7, v 8]) (.int .i64 4)).run Tryz.prog w = .ok (v 4) w := by kernel_rfl
  have h5 : (Instr.index 128 (.agg #[v 0, v 1, v 2, v 3, v 4, v 5, v 6, v 7, v 8]) (.int .i64 5)).run Tryz.prog w = .ok (v 5) w := by kernel_rfl
  have h6 : (Instr.index 128 (.agg #[v 0, v 1, v 2, v 3, v 4, v 5, v 6, v 7, v 8]) (.int .i64 6)).run Tryz.prog w = .ok (v 6) w := by kernel_rfl
  have h7 : (Instr.index 128 (.agg #[v 0, v 1, v 2, v 3, v 4, v 5, v 6, v 7, v 8]) (.int .i64 7)).run Tryz.prog w = .ok (v 7) w := by kernel_rfl
  have h8 : (Instr.index 128 (.agg #[v 0, v 1, v 2, v 3, v 4, v 5, v 6, v 7, v 8]) (.int .i64 8)).run Tryz.prog w = .ok (v 8) w := by kernel_rfl
  have : k = 0 ∨ k = 1 ∨ k = 2 ∨ k = 3 ∨ k = 4 ∨ k = 5 ∨ k = 6 ∨ k = 7 ∨ k = 8 := by omega
  rcases this with rfl | rfl | rfl | rfl | rfl | rfl | rfl | rfl | rfl
  · exact h0
  · exact h1
  · exact h2
  · exact h3
  · exact h4
  · exact h5
  · exact h6
  · exact h7
  · exact h8

theorem Fam.set {κ α : Type} {E : En α} {w : World} {base : Nat} {t : TypeId} {v : κ → Value} {rows : κ → List α} (h : Fam E w base t v rows) (b i : Nat) (u : Value) (hb : b < base) : Fam E (w.setCell ⟨b, i, none⟩ u) base t v rows :=
  ⟨fun k => (h.own k).set b i u hb, h.ne⟩
theorem set9 {w : World} {M m N : Nat} {v : Nat → Value} (h : ∀ k, k < N → w.cell? ⟨M, k, none⟩ = some (v k) ∧ w.frozen? ⟨M, k, none⟩ = false) (hm : m < N) (u : Value) :
    ∀ k, k < N → (w.setCell ⟨M, m, none⟩ u).cell? ⟨M, k, none⟩ = some (upd v m u k) ∧ (w.setCell ⟨M, m, none⟩ u).frozen? ⟨M, k, none⟩ = false := fun k hk => by
  refine ⟨?_, by rw [World.frozen?_setCell]; exact (h k hk).2⟩
  by_cases e : k = m
  · subst e; rw [upd_at]; exact World.cell?_setCell_same _ _ _ (h k hk).1
  · rw [upd_ne _ _ e, World.cell?_setCell_other _ _ _ _ (by intro e2; simp only [Addr.mk.injEq] at e2; omega)]; exact (h k hk).1

set_option maxRecDepth 100000 in
set_option maxHeartbeats 4000000 in
theorem beven_any (A : Option Addr) (n c : Nat) (l : List Po) (w : World) (h : RowE enPo w A n l) (hk : ∀ x ∈ l, okK (keyP x) = true) (hm : ∀ x ∈ l, isMoney x.2.2.1 = true) (hn : n ≤ 100000) :
    Calls Tryz.prog 60 #[.slice A n c] w fun e w' => e = .returned (.bool (flatI l)) ∧ Grew w w' := by
  have HI := Lib.hid h
  have HL := Lib.hid h.len
  have HK : Hid (∀ j, j < n → ∃ m : Nat, (l.getD j po0).2.1 = (m : Int) ∧ 1 ≤ m ∧ m ≤ 8) := fun j hj => by
    have h1 := (okK_iff _).1 (hk _ (getD_mem l po0 j (by rw [h.len]; exact hj)))
    have h2 : 1 ≤ (l.getD j po0).2.1 ∧ (l.getD j po0).2.1 ≤ 8 := h1.2
    exact ⟨(l.getD j po0).2.1.toNat, by omega, by omega, by omega⟩
  have HMN : Hid (∀ k, (rowI l k).all isMoney = true) := fun k => rowI_money l k hm
  have HNO : Hid (∀ k : Nat, k < 9 → (rowI l k).sum ≠ 0 → flatI l = false) := fun k hk9 hs => by
    rcases Nat.eq_zero_or_pos k with h0 | h0
    · subst h0
      exfalso
      apply hs
      have : l.filter (isI ((0 : Nat) : Int)) = [] := by
        rw [List.filter_eq_nil_iff]
        intro x hx he
        have h1 := ((okK_iff _).1 (hk x hx)).2
        have h2 : x.2.1 = 0 := by unfold isI at he; simpa using he
        have h3 : 1 ≤ x.2.1 := h1.1
        omega
      unfold rowI; rw [this]; rfl
    · rw [← Bool.not_eq_true, flatI_iff]
      intro h2
      exact hs (h2 (k : Int) (by omega) (by omega))
  have HYES : Hid ((∀ k : Nat, k < 9 → (rowI l k).sum = 0) → flatI l = true) := fun h2 => by
    rw [flatI_iff]
    intro m h3 h4
    have := h2 m.toNat (by omega)
    rw [rowI_sum, show ((m.toNat : Nat) : Int) = m by omega] at this
    exact this
  clear h hk hm
  generalize flatI l = R at *
  go_enter Tryz.func60, Tryz.ntmps60
  go_wp2
  have HC0 : Hid (OwnC (w.alloc (.cells #[.slice none 0 0, .slice none 0 0, .slice none 0 0, .slice none 0 0, .slice none 0 0, .slice none 0 0, .slice none 0 0, .slice none 0 0, .slice none 0 0] 128)) w.heap.size (List.replicate 9 (.slice none 0 0))) := OwnC.new w (List.replicate 9 (.slice none 0 0)) _ _ rfl
  have HG0 : Hid (Grew w (w.alloc (.cells #[.slice none 0 0, .slice none 0 0, .slice none 0 0, .slice none 0 0, .slice none 0 0, .slice none 0 0, .slice none 0 0, .slice none 0 0, .slice none 0 0] 128))) := grew_alloc _ _ _
  have HMM : Hid (w.heap.size + 1 ≤ (w.alloc (.cells #[.slice none 0 0, .slice none 0 0, .slice none 0 0, .slice none 0 0, .slice none 0 0, .slice none 0 0, .slice none 0 0, .slice none 0 0, .slice none 0 0] 128)).heap.size) := by show _ ≤ _; simp
  generalize w.alloc (.cells #[.slice none 0 0, .slice none 0 0, .slice none 0 0, .slice none 0 0, .slice none 0 0, .slice none 0 0, .slice none 0 0, .slice none 0 0, .slice none 0 0] 128) = w1 at *
  obtain ⟨M, hM⟩ : ∃ M, M = w.heap.size := ⟨_, rfl⟩
  have HMW : Hid (w.heap.size = M) := hM.symm
  rw [← hM] at HC0 HMM ⊢
  clear hM
  go_loopw [12] (fun v12 wr => ∃ (j : Nat) (v : Nat → Value), v12 = .int .i64 j ∧ j ≤ n ∧ Hid (Fam enInt wr (M + 1) 3 v (rowI (l.take j))) ∧ Hid (∀ k, k < 9 → wr.cell? ⟨M, k, none⟩ = some (v k) ∧ wr.frozen? ⟨M, k, none⟩ = false) ∧ Hid (Grew w wr) ∧ Hid (M + 1 ≤ wr.heap.size)) (fun v12 _ => n - (intOf v12).toNat)
  case atStart =>
    refine ⟨0, fun _ => .slice none 0 0, rfl, by omega, (Fam.nil enInt w1 (M + 1) 3).congr fun k => rfl, fun k hk => ⟨?_, ?_⟩, HG0.out, HMM.out⟩
    · rw [HC0.out.c k (by simpa using hk)]
      rw [List.getElem?_replicate, if_pos hk]
    · exact HC0.out.f k (by simpa using hk)
  case round =>
    clear HC0 HG0 HMM
    obtain ⟨j, v, rfl, hj, HF, HC, HG, HZ⟩ := hrel
    by_cases hlt : j < n
    · have hjl : j < l.length := by rw [HL.out]; exact hlt
      obtain ⟨b, o, rfl, hb, hc⟩ := (HI.out.keep HG.out).po hlt
      obtain ⟨a0, a1, a2, a3⟩ := hc j hlt
      obtain ⟨m, hm, m1, m2⟩ := HK.out j hlt
      have HS := Lib.hid (rowI_succ l j m hjl hm)
      have HRL := Lib.hid (rowI_len l j m)
      clear hc hb
      have i0 : (0 : Int) ≤ (j : Int) := by omega
      have i1 : (j : Int) < (n : Int) := by omega
      generalize l.getD j po0 = x at *
      obtain ⟨q1, q2, q3, q4⟩ := x
      dsimp only at a0 a1 a2 a3 hm HS
      subst hm
      have i2 : (0 : Int) ≤ (m : Int) := by omega
      have i3 : (m : Int) < 9 := by omega
      go_wp2
      have HX0 : Hid (OwnC (wr.alloc (.cells #[.int .i64 q1, .int .i64 m, .int .i64 q3, .int .i64 q4] 31)) wr.heap.size [.int .i64 q1, .int .i64 m, .int .i64 q3, .int .i64 q4]) := OwnC.new wr [.int .i64 q1, .int .i64 m, .int .i64 q3, .int .i64 q4] _ _ rfl
      have HGA : Hid (Grew wr (wr.alloc (.cells #[.int .i64 q1, .int .i64 m, .int .i64 q3, .int .i64 q4] 31))) := grew_alloc _ _ _
      generalize wr.alloc (.cells #[.int .i64 q1, .int .i64 m, .int .i64 q3, .int .i64 q4] 31) = w0 at *
      have HF0 := Lib.hid (HF.out.keep HGA.out)
      have HGW := Lib.hid (grew_trans HG.out HGA.out)
      have HN0 : Hid (wr.heap.size < w0.heap.size) := HX0.out.lt
      have HC0 : Hid (∀ k, k < 9 → w0.cell? ⟨M, k, none⟩ = some (v k) ∧ w0.frozen? ⟨M, k, none⟩ = false) := fun k hk => ⟨(grew_cell HGA.out (p := ⟨M, k, none⟩) (by show M < _; have := HZ.out; omega)).trans (HC.out k hk).1, (Below.frozen HGA.out (p := ⟨M, k, none⟩) (by show M < _; have := HZ.out; omega)).trans (HC.out k hk).2⟩
      have HOB : Hid (some wr.heap.size ≠ (v m).ownBlock) := fun e => by have := (HF.out.lt m e.symm).2; omega
      have hM0 : M < w0.heap.size := by have := HZ.out; have := HN0.out; omega
      have d0 := (HC0.out m (by omega)).1
      have HSP : Hid (∀ w', Grew w0 w' → (w'.cell? ⟨wr.heap.size, 1, none⟩ = some (.int .i64 m) ∧ w'.cell? ⟨wr.heap.size, 2, none⟩ = some (.int .i64 q3))) := fun w' g => ⟨(HX0.out.keep g).at 1 _ rfl, (HX0.out.keep g).at 2 _ rfl⟩
      have HMR : Hid (M + 1 ≤ wr.heap.size) := HZ.out
      clear a0 a1 a2 a3 HX0 HF HC HG HGA HZ
      generalize wr.heap.size = N0 at *
      have HM9 : Hid (m < 9) := by show _ < _; omega
      have HSP2 : Hid (∀ wx w', Grew w0 wx → wx.grownBy w' (v m).ownBlock → (w'.cell? ⟨N0, 1, none⟩ = some (.int .i64 m) ∧ w'.cell? ⟨N0, 2, none⟩ = some (.int .i64 q3))) := fun wx w' g hg => by
        have hlt : N0 < wx.heap.size := Nat.lt_of_lt_of_le HN0.out g.size
        exact ⟨(hg.cell_far ⟨N0, 1, none⟩ hlt HOB.out).trans (HSP.out _ g).1, (hg.cell_far ⟨N0, 2, none⟩ hlt HOB.out).trans (HSP.out _ g).2⟩
      have HSP3 : Hid (∀ wx w', Grew w0 wx → Below (M + 1) wx w' → wx.grownBy w' (v m).ownBlock → Below w.heap.size w0 w') := fun wx w' g hb hg => Below.mono (Below.trans (Below.mono g (by have := HMR.out; have := HN0.out; omega)) hb) (by rw [HMW.out]; exact Nat.le_succ _)
      have HSP4 : Hid (∀ wx w', Grew w0 wx → wx.grownBy w' (v m).ownBlock → ∀ k, k < 9 → w'.cell? ⟨M, k, none⟩ = some (v k) ∧ w'.frozen? ⟨M, k, none⟩ = false) := fun wx w' g hg k hk => by
        have h1 := (HF0.out.keep g).far hg (b := M) (Nat.lt_of_lt_of_le (by have := HMR.out; have := HN0.out; omega) g.size) (Nat.lt_succ_self _) k
        exact ⟨h1.1.trans ((grew_cell g (p := ⟨M, k, none⟩) (by show M < _; have := HMR.out; have := HN0.out; omega)).trans (HC0.out k hk).1), h1.2.trans ((Below.frozen g (p := ⟨M, k, none⟩) (by show M < _; have := HMR.out; have := HN0.out; omega)).trans (HC0.out k hk).2)⟩
      refine wp_region_noPanic ?_
      refine wp_region_held_drew (S := fun w' => w'.cell? ⟨N0, 1, none⟩ = some (.int .i64 m) ∧ w'.cell? ⟨N0, 2, none⟩ = some (.int .i64 q3)) (by kernel_rfl) (HSP.out _ (grew_drew (grew_refl _))) (fun hHeld => ?_)
      -- REGION5
      (refine wpAnyH_take (i := 0) (oi := { dst := some 16, op := Op.fieldAddr 31 (Operand.tmp 5) 0, type := 0, pos := "book.go:179", after := #[], guard := none }) (v := ?_) rfl (by kernel_rfl) (by kernel_rfl) (by kernel_rfl) (fun _ _ _ h => h) (Or.inl ⟨by rfl, ?_⟩) (by assumption) ?_; rotate_left; · (intro w hSw; (try dsimp only at hSw); go_simp; (first | done | with_reducible rfl)))
      try simp only [Act.put, List.setIfInBounds_toArray, List.set_cons_zero, List.set_cons_succ]
      (refine wpAnyH_take (i := 1) (oi := { dst := some 17, op := Op.fieldAddr 24 (Operand.tmp 16) 1, type := 0, pos := "book.go:179", after := #[{ on := 0, ground := Ground.data }], guard := none }) (v := ?_) rfl (by kernel_rfl) (by kernel_rfl) (by kernel_rfl) (fun _ _ _ h => h) (Or.inl ⟨by rfl, ?_⟩) (by assumption) ?_; rotate_left; · (intro w hSw; (try dsimp only at hSw); go_simp; (first | done | with_reducible rfl)))
      try simp only [Act.put, List.setIfInBounds_toArray, List.set_cons_zero, List.set_cons_succ]
      (refine wpAnyH_take (i := 2) (oi := { dst := some 18, op := Op.load 3 (Operand.tmp 17), type := 3, pos := "book.go:179", after := #[{ on := 1, ground := Ground.data }], guard := none }) (v := ?_) rfl (by kernel_rfl) (by kernel_rfl) (by kernel_rfl) (fun _ _ _ h => h) (Or.inl ⟨by rfl, ?_⟩) (by assumption) ?_; rotate_left; · (intro w hSw; (try dsimp only at hSw); go_simp; (first | done | with_reducible rfl)))
      try simp only [Act.put, List.setIfInBounds_toArray, List.set_cons_zero, List.set_cons_succ]
      (refine wpAnyH_take (i := 3) (oi := { dst := some 19, op := Op.fieldAddr 31 (Operand.tmp 5) 0, type := 0, pos := "book.go:179", after := #[], guard := none }) (v := ?_) rfl (by kernel_rfl) (by kernel_rfl) (by kernel_rfl) (fun _ _ _ h => h) (Or.inl ⟨by rfl, ?_⟩) (by assumption) ?_; rotate_left; · (intro w hSw; (try dsimp only at hSw); go_simp; (first | done | with_reducible rfl)))
      try simp only [Act.put, List.setIfInBounds_toArray, List.set_cons_zero, List.set_cons_succ]
      (refine wpAnyH_take (i := 4) (oi := { dst := some 20, op := Op.fieldAddr 24 (Operand.tmp 19) 1, type := 0, pos := "book.go:179", after := #[{ on := 3, ground := Ground.data }], guard := none }) (v := ?_) rfl (by kernel_rfl) (by kernel_rfl) (by kernel_rfl) (fun _ _ _ h => h) (Or.inl ⟨by rfl, ?_⟩) (by assumption) ?_; rotate_left; · (intro w hSw; (try dsimp only at hSw); go_simp; (first | done | with_reducible rfl)))
      try simp only [Act.put, List.setIfInBounds_toArray, List.set_cons_zero, List.set_cons_succ]
      (refine wpAnyH_take (i := 5) (oi := { dst := some 21, op := Op.load 3 (Operand.tmp 20), type := 3, pos := "book.go:179", after := #[{ on := 4, ground := Ground.data }], guard := none }) (v := ?_) rfl (by kernel_rfl) (by kernel_rfl) (by kernel_rfl) (fun _ _ _ h => h) (Or.inl ⟨by rfl, ?_⟩) (by assumption) ?_; rotate_left; · (intro w hSw; (try dsimp only at hSw); go_simp; (first | done | with_reducible rfl)))
      try simp only [Act.put, List.setIfInBounds_toArray, List.set_cons_zero, List.set_cons_succ]
      (refine wpAnyH_take (i := 6) (oi := { dst := some 22, op := Op.indexAddr 128 (Operand.tmp 3) (Operand.tmp 21), type := 0, pos := "book.go:179", after := #[{ on := 5, ground := Ground.data }], guard := none }) (v := ?_) rfl (by kernel_rfl) (by kernel_rfl) (by kernel_rfl) (fun _ _ _ h => h) (Or.inl ⟨by rfl, ?_⟩) (by assumption) ?_; rotate_left; · (intro w hSw; (try dsimp only at hSw); go_simp; (first | done | with_reducible rfl)))
      try simp only [Act.put, List.setIfInBounds_toArray, List.set_cons_zero, List.set_cons_succ]
      (refine wpAnyH_take (i := 8) (oi := { dst := some 24, op := Op.fieldAddr 31 (Operand.tmp 5) 1, type := 0, pos := "book.go:179", after := #[], guard := none }) (v := ?_) rfl (by kernel_rfl) (by kernel_rfl) (by kernel_rfl) (fun _ _ _ h => h) (Or.inl ⟨by rfl, ?_⟩) (by assumption) ?_; rotate_left; · (intro w hSw; (try dsimp only at hSw); go_simp; (first | done | with_reducible rfl)))
      try simp only [Act.put, List.setIfInBounds_toArray, List.set_cons_zero, List.set_cons_succ]
      (refine wpAnyH_take (i := 9) (oi := { dst := some 25, op := Op.load 3 (Operand.tmp 24), type := 3, pos := "book.go:179", after := #[{ on := 8, ground := Ground.data }], guard := none }) (v := ?_) rfl (by kernel_rfl) (by kernel_rfl) (by kernel_rfl) (fun _ _ _ h => h) (Or.inl ⟨by rfl, ?_⟩) (by assumption) ?_; rotate_left; · (intro w hSw; (try dsimp only at hSw); go_simp; (first | done | with_reducible rfl)))
      try simp only [Act.put, List.setIfInBounds_toArray, List.set_cons_zero, List.set_cons_succ]
      refine wpAnyH_ready (rs := [7, 10]) (by kernel_rfl) (by simp) ?_
      refine (AllReadyH.cons (o := { dst := some 23, op := Op.load 56 (Operand.tmp 22), type := 56, pos := "book.go:179", after := #[{ on := 6, ground := Ground.data }], guard := none }) rfl (fun K hK => ?_) (AllReadyH.cons (o := { dst := some 26, op := Op.buildSlice 56 1 #[(0, Operand.tmp 25)], type := 56, pos := "book.go:179", after := #[{ on := 9, ground := Ground.data }], guard := none }) rfl (fun K hK => ?_) AllReadyH.nil))
      · go_simp
        refine hK.out _ _ ?_ (fun hHeld => ?_)
        · first
          | exact HSP.out _ (by repeat (first | exact grew_refl _ | refine grew_drew ?_ | refine grew_trans ?_ (grew_alloc _ _ _)))
        clear hK K
        try simp only [Act.put, List.setIfInBounds_toArray, List.set_cons_zero, List.set_cons_succ]
        refine wpAnyH_ready (rs := [10]) (by kernel_rfl) (by simp) ?_
        refine (AllReadyH.cons (o := { dst := some 26, op := Op.buildSlice 56 1 #[(0, Operand.tmp 25)], type := 56, pos := "book.go:179", after := #[{ on := 9, ground := Ground.data }], guard := none }) rfl (fun K hK => ?_) AllReadyH.nil)
        go_simp
        refine hK.out _ _ ?_ (fun hHeld => ?_)
        · first
          | exact HSP.out _ (by repeat (first | exact grew_refl _ | refine grew_drew ?_ | refine grew_trans ?_ (grew_alloc _ _ _)))
        clear hK K
        try simp only [Act.put, List.setIfInBounds_toArray, List.set_cons_zero, List.set_cons_succ]
        refine wpAnyH_ready (rs := [11]) (by kernel_rfl) (by simp) ?_
        refine (AllReadyH.cons (o := { dst := some 27, op := Op.call { callee := Callee.builtin Builtin.append, args := #[Operand.tmp 23, Operand.tmp 26], argTypes := #[56, 56] }, type := 56, pos := "book.go:179", after := #[{ on := 7, ground := Ground.data }, { on := 10, ground := Ground.data }], guard := none }) rfl (fun K hK => ?_) AllReadyH.nil)
        refine step_fam (E := enInt) (t := 3) (base := M + 1) m (by rfl) _ _ 56 (.int .i64 0) 8 (by rfl) Tryz.underlying56 info_int1 (by rfl) (HF0.out.keep (by repeat (first | exact grew_refl _ | refine grew_drew ?_ | refine grew_trans ?_ (grew_alloc _ _ _)))) (by rfl) _ q3 (by rfl) (by first | exact RowE.one1 enInt _ _ _ _ _ (by simp) rfl | exact (RowE.one1 enInt _ _ _ _ _ (by simp) rfl).keep (grew_drew (grew_refl _))) (by have := HRL.out; unfold maxLen; omega) (by have := HRL.out; omega) (by have := HMR.out; have := HN0.out; simp; omega) ?_
        intro v2 w2 hf hb hg
        have HP2 := HSP2.out _ _ (by repeat (first | exact grew_refl _ | refine grew_drew ?_ | refine grew_trans ?_ (grew_alloc _ _ _))) hg
        obtain ⟨A9, c9, hv9, -⟩ := (hf.own m).form
        rw [upd_at] at hv9
        obtain ⟨A9, n9, c9, rfl⟩ : ∃ A n c, v2 = .slice A n c := ⟨_, _, _, hv9⟩
        clear hv9
        have HF2 := Lib.hid hf
        have HG2 : Hid (Grew w w2) := Below.trans HGW.out (HSP3.out _ _ (by repeat (first | exact grew_refl _ | refine grew_drew ?_ | refine grew_trans ?_ (grew_alloc _ _ _))) hb hg)
        have HC2 := Lib.hid (HSP4.out _ _ (by repeat (first | exact grew_refl _ | refine grew_drew ?_ | refine grew_trans ?_ (grew_alloc _ _ _))) hg)
        have d2 := (HC2.out m HM9.out).1
        have d3 := (HC2.out m HM9.out).2
        have HB2 : Hid (Below w.heap.size w0 w2) := HSP3.out _ _ (by repeat (first | exact grew_refl _ | refine grew_drew ?_ | refine grew_trans ?_ (grew_alloc _ _ _))) hb hg
        clear hf hb hg
        refine hK.out _ _ ?_ (fun hHeld => ?_)
        · first
          | exact HP2
        clear hK K
        try simp only [Act.put, List.setIfInBounds_toArray, List.set_cons_zero, List.set_cons_succ]
        (refine wpAnyH_take (i := 12) (oi := { dst := some 28, op := Op.indexAddr 128 (Operand.tmp 3) (Operand.tmp 18), type := 0, pos := "book.go:179", after := #[{ on := 2, ground := Ground.data }, { on := 0, ground := Ground.phase }, { on := 1, ground := Ground.phase }, { on := 2, ground := Ground.phase }, { on := 3, ground := Ground.phase }, { on := 4, ground := Ground.phase }, { on := 5, ground := Ground.phase }, { on := 6, ground := Ground.phase }, { on := 7, ground := Ground.phase }, { on := 8, ground := Ground.phase }, { on := 9, ground := Ground.phase }, { on := 10, ground := Ground.phase }, { on := 11, ground := Ground.phase }], guard := none }) (v := ?_) rfl (by kernel_rfl) (by kernel_rfl) (by kernel_rfl) (fun _ _ _ h => h) (Or.inl ⟨by rfl, ?_⟩) (by assumption) ?_; rotate_left; · (intro w hSw; (try dsimp only at hSw); go_simp; (first | done | with_reducible rfl)))
        try simp only [Act.put, List.setIfInBounds_toArray, List.set_cons_zero, List.set_cons_succ]
        refine wpAnyH_ready (rs := [13]) (by kernel_rfl) (by simp) ?_
        refine (AllReadyH.cons (o := { dst := none, op := Op.store 56 (Operand.tmp 28) (Operand.tmp 27), type := 0, pos := "book.go:179", after := #[{ on := 12, ground := Ground.data }, { on := 11, ground := Ground.data }, { on := 11, ground := Ground.chain }, { on := 0, ground := Ground.phase }, { on := 1, ground := Ground.phase }, { on := 2, ground := Ground.phase }, { on := 3, ground := Ground.phase }, { on := 4, ground := Ground.phase }, { on := 5, ground := Ground.phase }, { on := 6, ground := Ground.phase }, { on := 7, ground := Ground.phase }, { on := 8, ground := Ground.phase }, { on := 9, ground := Ground.phase }, { on := 10, ground := Ground.phase }, { on := 11, ground := Ground.phase }], guard := none }) rfl (fun K hK => ?_) AllReadyH.nil)
        go_simp
        refine hK.out _ _ ?_ (fun hHeld => ?_)
        · first
          | exact ⟨(World.cell?_setCell_other _ _ _ _ (by intro e; simp only [Addr.mk.injEq] at e; have := HMR.out; omega)).trans HP2.1, (World.cell?_setCell_other _ _ _ _ (by intro e; simp only [Addr.mk.injEq] at e; have := HMR.out; omega)).trans HP2.2⟩
        clear hK K
        try simp only [Act.put, List.setIfInBounds_toArray, List.set_cons_zero, List.set_cons_succ]
        refine wpAnyH_done (by kernel_rfl) ?_ _
        clear hHeld d2 d3
        have HG3 : Hid (Grew w (w2.setCell ⟨M, m, none⟩ (.slice A9 n9 c9))) := grew_set HG2.out _ (by rw [HMW.out]; exact Nat.le_refl _)
        have HC3 := Lib.hid (set9 HC2.out HM9.out (.slice A9 n9 c9))
        have HF3 : Hid (Fam enInt (w2.setCell ⟨M, m, none⟩ (.slice A9 n9 c9)) (M + 1) 3 (upd v m (.slice A9 n9 c9)) (rowI (l.take (j + 1)))) := (HF2.out.congr HS.out).set M m _ (Nat.lt_succ_self _)
        have HZ3 : Hid (M + 1 ≤ (w2.setCell ⟨M, m, none⟩ (.slice A9 n9 c9)).heap.size) := le_set _ _ (Nat.le_trans (by have := HMR.out; have := HN0.out; omega) HB2.out.size)
        clear HF0 HC0 HSP HSP2 HSP3 HSP4 HF2 HC2 HP2 HG2 HB2 HS
        apply_assumption
        go_wp2
        go_roundw
        case rel => exact ⟨j + 1, _, by go_num, by omega, HF3.out, HC3.out, HG3.out, HZ3.out⟩
        case measure => simp only [intOf]; omega
      · go_simp
        refine hK.out _ _ ?_ (fun hHeld => ?_)
        · first
          | exact HSP.out _ (by repeat (first | exact grew_refl _ | refine grew_drew ?_ | refine grew_trans ?_ (grew_alloc _ _ _)))
        clear hK K
        try simp only [Act.put, List.setIfInBounds_toArray, List.set_cons_zero, List.set_cons_succ]
        refine wpAnyH_ready (rs := [7]) (by kernel_rfl) (by simp) ?_
        refine (AllReadyH.cons (o := { dst := some 23, op := Op.load 56 (Operand.tmp 22), type := 56, pos := "book.go:179", after := #[{ on := 6, ground := Ground.data }], guard := none }) rfl (fun K hK => ?_) AllReadyH.nil)
        go_simp
        refine hK.out _ _ ?_ (fun hHeld => ?_)
        · first
          | exact HSP.out _ (by repeat (first | exact grew_refl _ | refine grew_drew ?_ | refine grew_trans ?_ (grew_alloc _ _ _)))
        clear hK K
        try simp only [Act.put, List.setIfInBounds_toArray, List.set_cons_zero, List.set_cons_succ]
        refine wpAnyH_ready (rs := [11]) (by kernel_rfl) (by simp) ?_
        refine (AllReadyH.cons (o := { dst := some 27, op := Op.call { callee := Callee.builtin Builtin.append, args := #[Operand.tmp 23, Operand.tmp 26], argTypes := #[56, 56] }, type := 56, pos := "book.go:179", after := #[{ on := 7, ground := Ground.data }, { on := 10, ground := Ground.data }], guard := none }) rfl (fun K hK => ?_) AllReadyH.nil)
        refine step_fam (E := enInt) (t := 3) (base := M + 1) m (by rfl) _ _ 56 (.int .i64 0) 8 (by rfl) Tryz.underlying56 info_int1 (by rfl) (HF0.out.keep (by repeat (first | exact grew_refl _ | refine grew_drew ?_ | refine grew_trans ?_ (grew_alloc _ _ _)))) (by rfl) _ q3 (by rfl) (by first | exact RowE.one1 enInt _ _ _ _ _ (by simp) rfl | exact (RowE.one1 enInt _ _ _ _ _ (by simp) rfl).keep (grew_drew (grew_refl _))) (by have := HRL.out; unfold maxLen; omega) (by have := HRL.out; omega) (by have := HMR.out; have := HN0.out; simp; omega) ?_
        intro v2 w2 hf hb hg
        have HP2 := HSP2.out _ _ (by repeat (first | exact grew_refl _ | refine grew_drew ?_ | refine grew_trans ?_ (grew_alloc _ _ _))) hg
        obtain ⟨A9, c9, hv9, -⟩ := (hf.own m).form
        rw [upd_at] at hv9
        obtain ⟨A9, n9, c9, rfl⟩ : ∃ A n c, v2 = .slice A n c := ⟨_, _, _, hv9⟩
        clear hv9
        have HF2 := Lib.hid hf
        have HG2 : Hid (Grew w w2) := Below.trans HGW.out (HSP3.out _ _ (by repeat (first | exact grew_refl _ | refine grew_drew ?_ | refine grew_trans ?_ (grew_alloc _ _ _))) hb hg)
        have HC2 := Lib.hid (HSP4.out _ _ (by repeat (first | exact grew_refl _ | refine grew_drew ?_ | refine grew_trans ?_ (grew_alloc _ _ _))) hg)
        have d2 := (HC2.out m HM9.out).1
        have d3 := (HC2.out m HM9.out).2
        have HB2 : Hid (Below w.heap.size w0 w2) := HSP3.out _ _ (by repeat (first | exact grew_refl _ | refine grew_drew ?_ | refine grew_trans ?_ (grew_alloc _ _ _))) hb hg
        clear hf hb hg
        refine hK.out _ _ ?_ (fun hHeld => ?_)
        · first
          | exact HP2
        clear hK K
        try simp only [Act.put, List.setIfInBounds_toArray, List.set_cons_zero, List.set_cons_succ]
        (refine wpAnyH_take (i := 12) (oi := { dst := some 28, op := Op.indexAddr 128 (Operand.tmp 3) (Operand.tmp 18), type := 0, pos := "book.go:179", after := #[{ on := 2, ground := Ground.data }, { on := 0, ground := Ground.phase }, { on := 1, ground := Ground.phase }, { on := 2, ground := Ground.phase }, { on := 3, ground := Ground.phase }, { on := 4, ground := Ground.phase }, { on := 5, ground := Ground.phase }, { on := 6, ground := Ground.phase }, { on := 7, ground := Ground.phase }, { on := 8, ground := Ground.phase }, { on := 9, ground := Ground.phase }, { on := 10, ground := Ground.phase }, { on := 11, ground := Ground.phase }], guard := none }) (v := ?_) rfl (by kernel_rfl) (by kernel_rfl) (by kernel_rfl) (fun _ _ _ h => h) (Or.inl ⟨by rfl, ?_⟩) (by assumption) ?_; rotate_left; · (intro w hSw; (try dsimp only at hSw); go_simp; (first | done | with_reducible rfl)))
        try simp only [Act.put, List.setIfInBounds_toArray, List.set_cons_zero, List.set_cons_succ]
        refine wpAnyH_ready (rs := [13]) (by kernel_rfl) (by simp) ?_
        refine (AllReadyH.cons (o := { dst := none, op := Op.store 56 (Operand.tmp 28) (Operand.tmp 27), type := 0, pos := "book.go:179", after := #[{ on := 12, ground := Ground.data }, { on := 11, ground := Ground.data }, { on := 11, ground := Ground.chain }, { on := 0, ground := Ground.phase }, { on := 1, ground := Ground.phase }, { on := 2, ground := Ground.phase }, { on := 3, ground := Ground.phase }, { on := 4, ground := Ground.phase }, { on := 5, ground := Ground.phase }, { on := 6, ground := Ground.phase }, { on := 7, ground := Ground.phase }, { on := 8, ground := Ground.phase }, { on := 9, ground := Ground.phase }, { on := 10, ground := Ground.phase }, { on := 11, ground := Ground.phase }], guard := none }) rfl (fun K hK => ?_) AllReadyH.nil)
        go_simp
        refine hK.out _ _ ?_ (fun hHeld => ?_)
        · first
          | exact ⟨(World.cell?_setCell_other _ _ _ _ (by intro e; simp only [Addr.mk.injEq] at e; have := HMR.out; omega)).trans HP2.1, (World.cell?_setCell_other _ _ _ _ (by intro e; simp only [Addr.mk.injEq] at e; have := HMR.out; omega)).trans HP2.2⟩
        clear hK K
        try simp only [Act.put, List.setIfInBounds_toArray, List.set_cons_zero, List.set_cons_succ]
        refine wpAnyH_done (by kernel_rfl) ?_ _
        clear hHeld d2 d3
        have HG3 : Hid (Grew w (w2.setCell ⟨M, m, none⟩ (.slice A9 n9 c9))) := grew_set HG2.out _ (by rw [HMW.out]; exact Nat.le_refl _)
        have HC3 := Lib.hid (set9 HC2.out HM9.out (.slice A9 n9 c9))
        have HF3 : Hid (Fam enInt (w2.setCell ⟨M, m, none⟩ (.slice A9 n9 c9)) (M + 1) 3 (upd v m (.slice A9 n9 c9)) (rowI (l.take (j + 1)))) := (HF2.out.congr HS.out).set M m _ (Nat.lt_succ_self _)
        have HZ3 : Hid (M + 1 ≤ (w2.setCell ⟨M, m, none⟩ (.slice A9 n9 c9)).heap.size) := le_set _ _ (Nat.le_trans (by have := HMR.out; have := HN0.out; omega) HB2.out.size)
        clear HF0 HC0 HSP HSP2 HSP3 HSP4 HF2 HC2 HP2 HG2 HB2 HS
        apply_assumption
        go_wp2
        go_roundw
        case rel => exact ⟨j + 1, _, by go_num, by omega, HF3.out, HC3.out, HG3.out, HZ3.out⟩
        case measure => simp only [intOf]; omega
      -- END5
    · obtain rfl : j = n := by omega
      have ht : l.take j = l := List.take_of_length_le (by rw [HL.out]; exact Nat.le_refl _)
      rw [ht] at HF
      clear ht HK hlt hj
      have c0 := (HC.out 0 (by omega)).1; have c1 := (HC.out 1 (by omega)).1; have c2 := (HC.out 2 (by omega)).1; have c3 := (HC.out 3 (by omega)).1; have c4 := (HC.out 4 (by omega)).1; have c5 := (HC.out 5 (by omega)).1; have c6 := (HC.out 6 (by omega)).1; have c7 := (HC.out 7 (by omega)).1; have c8 := (HC.out 8 (by omega)).1
      go_wp2
      clear c0 c1 c2 c3 c4 c5 c6 c7 c8 HC
      generalize wr = wo at *
      go_loopw [31] (fun v31 wx => ∃ k : Nat, v31 = .int .i64 k ∧ k ≤ 9 ∧ Hid (∀ i, i < k → (rowI l i).sum = 0) ∧ Hid (Grew wo wx)) (fun v31 _ => 9 - (intOf v31).toNat)
      case atStart => exact ⟨0, rfl, by omega, fun i hi => by omega, grew_refl _⟩
      case round =>
        obtain ⟨k, rfl, hk, HZ0, HG2⟩ := hrel
        have HG3 := Lib.hid (grew_trans HG.out HG2.out)
        by_cases hlt : k < 9
        · have ix := fun w => idx9 v w k hlt
          obtain ⟨A3, c3, hv3, hr3, -, -, -⟩ := ((HF.out.own k).keep HG2.out).form
          rw [hv3] at ix
          have hlen : (rowI l k).length ≤ 100000 := by
            unfold rowI; rw [qtys_len]
            exact Nat.le_trans (List.length_filter_le _ _) (by rw [HL.out]; exact hn)
          have CS := fun w' (g : Grew wr w') => sum_any A3 _ c3 (rowI l k) w' (ints_of_E (hr3.keep g)) (by omega)
          rw [sumV_in (HMN.out k), sumE_in (HMN.out k)] at CS
          have HN1 := Lib.hid (HNO.out k hlt)
          have HZ1 : Hid ((rowI l k).sum = 0 → ∀ i, i < k + 1 → (rowI l i).sum = 0) := fun h i hi => by
            rcases Nat.lt_or_ge i k with h1 | h1
            · exact HZ0.out i h1
            · obtain rfl : i = k := by omega
              exact h
          have i1 : (k : Int) < 9 := by omega
          have i0 : (0 : Int) ≤ (k : Int) := by omega
          clear hr3 HZ0 hv3 HNO HYES HMN
          generalize (rowI l k).length = n3 at *
          generalize (rowI l k).sum = s at *
          by_cases hs : s = 0
          · have HZ2 := Lib.hid (HZ1.out hs)
            subst hs
            rw [capV_in (by decide), capE_in (by decide)] at CS
            clear HZ1 HN1
            go_wp2_with (go_at_call 17; ((with_reducible refine (CS _ (grew_refl _)).mono ?_); rintro e w5 ⟨rfl, hg⟩; have HG5 := Lib.hid hg; clear hg))
            go_roundw
            case rel => exact ⟨k + 1, by go_num, by omega, HZ2.out, grew_trans HG2.out HG5.out⟩
            case measure => simp only [intOf]; omega
          · have HF2 := Lib.hid (HN1.out hs)
            clear HZ1 HN1
            by_cases hms : isMoney s = true
            · rw [capV_in hms, capE_in hms] at CS
              have d1 : (s != 0) = true := by simpa using hs
              clear hms hs
              go_wp2_with (go_at_call 17; ((with_reducible refine (CS _ (grew_refl _)).mono ?_); rintro e w5 ⟨rfl, hg⟩; have HG5 := Lib.hid hg; clear hg))
              go_ret
              exact ⟨ret_b HF2.out.symm, grew_trans HG3.out HG5.out⟩
            · rw [Bool.not_eq_true] at hms
              rw [capV_out hms, capE_out hms] at CS
              clear hms hs
              go_wp2_with (go_at_call 17; ((with_reducible refine (CS _ (grew_refl _)).mono ?_); rintro e w5 ⟨rfl, hg⟩; have HG5 := Lib.hid hg; clear hg))
              go_ret
              exact ⟨ret_b HF2.out.symm, grew_trans HG3.out HG5.out⟩
        · obtain rfl : k = 9 := by omega
          have HF2 := Lib.hid (HYES.out HZ0.out)
          clear HYES HNO
          go_wp2
          go_ret
          exact ⟨ret_b HF2.out.symm, HG3.out⟩
end Go.Proofs.YtahioajpmlochaaGreat.NumK
namespace Go.Proofs.YtahioajpmlochaaGreat.NumK
open Go.RowKit
set_option linter.unusedVariables false

set_option maxRecDepth 100000 in
set_option maxHeartbeats 2000000 in
theorem rnumbers_any (t : Tr) (w : World) : Calls Tryz.prog 46 #[vTr t] w fun e w' => e = .returned (.bool (numsT t)) ∧ Grew w w' := by
  have HV : Hid (numsT t = (sizedT t && wi t.1.2.1 1 16 && wi t.1.2.2.1 1 16 && !(decide (t.1.2.1 = t.1.2.2.1)) && wi t.1.2.2.2.1 1 8)) := rfl
  have C1 := fun w => rsized_any t w
  generalize numsT t = V at *
  generalize sizedT t = R1 at *
  obtain ⟨⟨q1, q2, q3, q4, q5, q6⟩, q7⟩ := t
  dsimp only at HV
  have C2 := fun w => rwho_any q2 w
  have C3 := fun w => rwho_any q3 w
  have C5 := fun w => rwithin_any q4 1 8 w
  have HX0 : Hid (OwnC (w.alloc (.cells #[.int .i64 q1, .int .i64 q2, .int .i64 q3, .int .i64 q4, .int .i64 q5, .int .i64 q6, .bool q7] 50)) w.heap.size [.int .i64 q1, .int .i64 q2, .int .i64 q3, .int .i64 q4, .int .i64 q5, .int .i64 q6, .bool q7]) := OwnC.new w [.int .i64 q1, .int .i64 q2, .int .i64 q3, .int .i64 q4, .int .i64 q5, .int .i64 q6, .bool q7] _ _ rfl
  generalize wi q2 1 16 = R2 at *
  generalize wi q3 1 16 = R3 at *
  generalize wi q4 1 8 = R5 at *
  have H4 : Hid ((q2 = q3 ∧ decide (q2 = q3) = true) ∨ ((q2 != q3) = true ∧ decide (q2 = q3) = false)) := by
    by_cases h : q2 = q3
    · exact Or.inl ⟨h, decide_eq_true h⟩
    · exact Or.inr ⟨by simpa using h, decide_eq_false h⟩
  generalize hR4 : decide (q2 = q3) = R4 at *
  clear hR4
  dsimp only [vTr] at C1 ⊢
  have H : (R1 = false) ∨ (R1 = true ∧ R2 = false) ∨ (R1 = true ∧ R2 = true ∧ R3 = false) ∨ (R1 = true ∧ R2 = true ∧ R3 = true) := by cases R1 <;> cases R2 <;> cases R3 <;> simp
  rcases H with rfl | ⟨rfl, rfl⟩ | ⟨rfl, rfl, rfl⟩ | ⟨rfl, rfl, rfl⟩
  · have HF : Hid (V = false) := by show _ = _; rw [HV.out]; rfl
    clear HV H4
    go_enter Tryz.func46, Tryz.ntmps46
    go_wp2_with (go_at_call 78; ((with_reducible refine (C1 _).mono ?_); rintro e w1 ⟨rfl, hg⟩; have HG := Lib.hid (own_back hg); clear hg))
    go_ret
    exact ⟨ret_b HF.out.symm, HG.out⟩
  · have HF : Hid (V = false) := by show _ = _; rw [HV.out]; rfl
    clear HV H4
    go_enter Tryz.func46, Tryz.ntmps46
    go_wp2_with (first
      | (go_at_call 78; ((with_reducible refine (C1 _).mono ?_); rintro e w1 ⟨rfl, hg⟩; have HG := Lib.hid (own_back hg); have HX := Lib.hid (HX0.out.keep hg); have x1 : w1.cell? ⟨w.heap.size, 1, none⟩ = some (.int .i64 q2) := HX.out.at 1 _ rfl; clear hg))
      | (go_at_call 47; ((with_reducible refine (C2 _).mono ?_); rintro e w2 ⟨rfl, rfl⟩)))
    go_ret
    exact ⟨ret_b HF.out.symm, HG.out⟩
  · have HF : Hid (V = false) := by show _ = _; rw [HV.out]; rfl
    clear HV H4
    go_enter Tryz.func46, Tryz.ntmps46
    go_wp2_with (first
      | (go_at_call 78; ((with_reducible refine (C1 _).mono ?_); rintro e w1 ⟨rfl, hg⟩; have HG := Lib.hid (own_back hg); have HX := Lib.hid (HX0.out.keep hg); have x1 : w1.cell? ⟨w.heap.size, 1, none⟩ = some (.int .i64 q2) := HX.out.at 1 _ rfl; have x2 : w1.cell? ⟨w.heap.size, 2, none⟩ = some (.int .i64 q3) := HX.out.at 2 _ rfl; clear hg))
      | (go_at_call 47; ((with_reducible refine (C2 _).mono ?_); rintro e w2 ⟨rfl, rfl⟩))
      | (go_at_call 47; ((with_reducible refine (C3 _).mono ?_); rintro e w2 ⟨rfl, rfl⟩)))
    go_ret
    exact ⟨ret_b HF.out.symm, HG.out⟩
  · rcases H4.out with ⟨rfl, rfl⟩ | ⟨d4, rfl⟩
    · have HF : Hid (V = false) := by show _ = _; rw [HV.out]; rfl
      clear HV H4
      go_enter Tryz.func46, Tryz.ntmps46
      go_wp2_with (first
        | (go_at_call 78; ((with_reducible refine (C1 _).mono ?_); rintro e w1 ⟨rfl, hg⟩; have HG := Lib.hid (own_back hg); have HX := Lib.hid (HX0.out.keep hg); have x1 : w1.cell? ⟨w.heap.size, 1, none⟩ = some (.int .i64 q2) := HX.out.at 1 _ rfl; have x2 : w1.cell? ⟨w.heap.size, 2, none⟩ = some (.int .i64 q2) := HX.out.at 2 _ rfl; clear hg))
        | (go_at_call 47; ((with_reducible refine (C2 _).mono ?_); rintro e w2 ⟨rfl, rfl⟩)))
      go_ret
      exact ⟨ret_b HF.out.symm, HG.out⟩
    · have HF : Hid (V = R5) := by show _ = _; rw [HV.out]; rfl
      clear HV H4
      go_enter Tryz.func46, Tryz.ntmps46
      go_wp2_with (first
        | (go_at_call 78; ((with_reducible refine (C1 _).mono ?_); rintro e w1 ⟨rfl, hg⟩; have HG := Lib.hid (own_back hg); have HX := Lib.hid (HX0.out.keep hg); have x1 : w1.cell? ⟨w.heap.size, 1, none⟩ = some (.int .i64 q2) := HX.out.at 1 _ rfl; have x2 : w1.cell? ⟨w.heap.size, 2, none⟩ = some (.int .i64 q3) := HX.out.at 2 _ rfl; have x3 : w1.cell? ⟨w.heap.size, 3, none⟩ = some (.int .i64 q4) := HX.out.at 3 _ rfl; clear hg))
        | (go_at_call 47; ((with_reducible refine (C2 _).mono ?_); rintro e w2 ⟨rfl, rfl⟩))
        | (go_at_call 47; ((with_reducible refine (C3 _).mono ?_); rintro e w2 ⟨rfl, rfl⟩))
        | (go_at_call 26; ((with_reducible refine (C5 _).mono ?_); rintro e w2 ⟨rfl, rfl⟩)))
      go_ret
      exact ⟨ret_b HF.out.symm, HG.out⟩
end Go.Proofs.YtahioajpmlochaaGreat.NumK
namespace Go.Proofs.YtahioajpmlochaaGreat.NumK
open Go.RowKit
set_option linter.unusedVariables false

theorem okPo_alt (x : Po) : okPo x = (okK (x.1, x.2.1) && wi x.2.2.1 (-1099511627776) 1099511627776 && isMoney x.2.2.2 && !(noneP x.2.2.1 x.2.2.2)) := rfl
theorem ok_klt {a b : Po} (ha : okPo a = true) (hb : okPo b = true) : kltB (a.1, a.2.1) (b.1, b.2.1) = decide (noPo a < noPo b) :=
  klt_no (a := keyP a) (b := keyP b) ((okPo_iff a).1 ha).1 ((okPo_iff b).1 hb).1
theorem steps_ok {l : List Po} {j : Nat} (h : (List.range j).all (stepOK okPo noPo po0 l) = true) {i : Nat} (hi : i < j) : okPo (l.getD i po0) = true := by
  have := (List.all_eq_true.1 h) i (List.mem_range.2 hi)
  unfold stepOK at this
  rw [Bool.and_eq_true] at this
  exact this.1
theorem steps_all {l : List Po} (h : (List.range l.length).all (stepOK okPo noPo po0 l) = true) : ∀ x ∈ l, okPo x = true := fun x hx => by
  obtain ⟨i, hi, rfl⟩ := List.getElem_of_mem hx
  rw [← getD_at l po0 i hi]
  exact steps_ok h hi

set_option maxRecDepth 100000 in
set_option maxHeartbeats 4000000 in
theorem rightPoss_any (A : Option Addr) (n c : Nat) (l : List Po) (w : World) (h : RowE enPo w A n l) (hn : n ≤ 100000) :
    Calls Tryz.prog 32 #[.slice A n c] w fun e w' => e = .returned (.bool (rightPs l)) ∧ Grew w w' := by
  have HI := Lib.hid h
  have HL := Lib.hid h.len
  have HR : Hid (rightPs l = ((List.range n).all (stepOK okPo noPo po0 l) && flatI l)) := by show _ = _; rw [← h.len]; rfl
  have HEV : Hid ((List.range n).all (stepOK okPo noPo po0 l) = true → ∀ w', Grew w w' → Calls Tryz.prog 60 #[.slice A n c] w' fun e w'' => e = .returned (.bool (flatI l)) ∧ Grew w' w'') := fun hs w' g => by
    have h2 : ∀ x ∈ l, okPo x = true := steps_all (by rw [h.len]; exact hs)
    exact beven_any A n c l w' (h.keep g) (fun x hx => ((okPo_iff x).1 (h2 x hx)).1) (fun x hx => (isMoney_iff _).2 (by have := (okQ_iff _).1 ((okPo_iff x).1 (h2 x hx)).2.1; omega)) hn
  generalize flatI l = FL at *
  generalize rightPs l = R at *
  clear h
  go_enter Tryz.func32, Tryz.ntmps32
  go_wp2
  go_loopw [7] (fun v wr => ∃ j : Nat, v = .int .i64 j ∧ j ≤ n ∧ Hid ((List.range j).all (stepOK okPo noPo po0 l) = true) ∧ Hid (Grew w wr)) (fun v _ => n - (intOf v).toNat)
  case atStart => exact ⟨0, rfl, by omega, rfl, grew_refl _⟩
  case round =>
    obtain ⟨j, rfl, hj, HM, HG⟩ := hrel
    by_cases hlt : j < n
    · obtain ⟨b, o, rfl, hb, hc⟩ := (HI.out.keep HG.out).po hlt
      have HN := Lib.hid (range_all_no (stepOK okPo noPo po0 l) j n hlt)
      have HY := Lib.hid (range_all_succ (stepOK okPo noPo po0 l) j)
      have HST : Hid (stepOK okPo noPo po0 l j = (okPo (l.getD j po0) && (decide (j = 0) || decide (noPo (l.getD (j - 1) po0) < noPo (l.getD j po0))))) := rfl
      have HKL : Hid (0 < j → okPo (l.getD j po0) = true → kltB ((l.getD (j - 1) po0).1, (l.getD (j - 1) po0).2.1) ((l.getD j po0).1, (l.getD j po0).2.1) = decide (noPo (l.getD (j - 1) po0) < noPo (l.getD j po0))) := fun h0 hx => ok_klt (steps_ok HM.out (by omega)) hx
      have HOK := Lib.hid (okPo_alt (l.getD j po0))
      have CE := fun w => empty_any (l.getD j po0) w
      obtain ⟨a0, a1, a2, a3⟩ := hc j hlt
      have HPB : Hid (0 < j → CPo wr b (o + (j - 1) * 4) (l.getD (j - 1) po0)) := fun h0 => hc (j - 1) (by omega)
      have HB := Lib.hid hb
      clear hc hb
      have i0 : (0 : Int) ≤ (j : Int) := by omega
      have i1 : (j : Int) < (n : Int) := by omega
      generalize stepOK okPo noPo po0 l j = st at *
      generalize decide (noPo (l.getD (j - 1) po0) < noPo (l.getD j po0)) = lt at *
      generalize okPo (l.getD j po0) = ok at *
      generalize l.getD j po0 = x at *
      generalize l.getD (j - 1) po0 = p at *
      obtain ⟨q1, q2, q3, q4⟩ := x
      dsimp only at a0 a1 a2 a3 HKL HOK CE
      dsimp only [vPo] at CE
      have C1 := fun w => permitted_any q1 q2 w
      have C2 := fun w => bwithin_any q3 (-1099511627776) 1099511627776 w
      have C3 := fun w => right_any (some ⟨w.heap.size, 0, none⟩) 1 1 [q4] (w.alloc (.cells #[.int .i64 q4] 3)) (ints1 w q4 _) (by decide)
      simp only [List.all_cons, List.all_nil, Bool.and_true] at C3
      dsimp only [vKy] at C1
      generalize okK (q1, q2) = R1 at *
      generalize wi q3 (-1099511627776) 1099511627776 = R2 at *
      generalize isMoney q4 = R3 at *
      generalize noneP q3 q4 = R4 at *
      have HX0 : Hid (OwnC (wr.alloc (.cells #[.int .i64 q1, .int .i64 q2, .int .i64 q3, .int .i64 q4] 31)) wr.heap.size [.int .i64 q1, .int .i64 q2, .int .i64 q3, .int .i64 q4]) := OwnC.new wr [.int .i64 q1, .int .i64 q2, .int .i64 q3, .int .i64 q4] _ _ rfl
      have H : (R1 = false) ∨ (R1 = true ∧ R2 = false) ∨ (R1 = true ∧ R2 = true ∧ R3 = false) ∨ (R1 = true ∧ R2 = true ∧ R3 = true ∧ R4 = true) ∨ (R1 = true ∧ R2 = true ∧ R3 = true ∧ R4 = false) := by cases R1 <;> cases R2 <;> cases R3 <;> cases R4 <;> simp
      rcases H with rfl | ⟨rfl, rfl⟩ | ⟨rfl, rfl, rfl⟩ | ⟨rfl, rfl, rfl, rfl⟩ | ⟨rfl, rfl, rfl, rfl⟩
      · have HF : Hid (R = false) := by show _ = _; rw [HR.out, ← HN.out (by rw [HST.out, HOK.out]; rfl)]; rfl
        clear HN HY HST HKL HOK HPB HM HR HEV
        go_wp2_with (go_at_call 57; ((with_reducible refine (C1 _).mono ?_); rintro e w1 ⟨rfl, hg⟩; have HG1 := Lib.hid (grew_trans HG.out (own_back hg)); clear hg))
        go_ret
        exact ⟨ret_b HF.out.symm, HG1.out⟩
      · have HF : Hid (R = false) := by show _ = _; rw [HR.out, ← HN.out (by rw [HST.out, HOK.out]; rfl)]; rfl
        clear HN HY HST HKL HOK HPB HM HR HEV
        go_wp2_with (first
          | (go_at_call 57; ((with_reducible refine (C1 _).mono ?_); rintro e w1 ⟨rfl, hg⟩; have HG1 := Lib.hid (grew_trans HG.out (own_back hg)); have x2 : w1.cell? ⟨wr.heap.size, 2, none⟩ = some (.int .i64 q3) := (HX0.out.keep hg).at 2 _ rfl; clear hg))
          | (go_at_call 31; ((with_reducible refine (C2 _).mono ?_); rintro e w2 ⟨rfl, rfl⟩)))
        go_ret
        exact ⟨ret_b HF.out.symm, HG1.out⟩
      · have HF : Hid (R = false) := by show _ = _; rw [HR.out, ← HN.out (by rw [HST.out, HOK.out]; rfl)]; rfl
        clear HN HY HST HKL HOK HPB HM HR HEV
        go_wp2_with (first
          | (go_at_call 57; ((with_reducible refine (C1 _).mono ?_); rintro e w1 ⟨rfl, hg⟩; have HG1 := Lib.hid (grew_trans HG.out (own_back hg)); have x2 : w1.cell? ⟨wr.heap.size, 2, none⟩ = some (.int .i64 q3) := (HX0.out.keep hg).at 2 _ rfl; have x3 : w1.cell? ⟨wr.heap.size, 3, none⟩ = some (.int .i64 q4) := (HX0.out.keep hg).at 3 _ rfl; clear hg))
          | (go_at_call 31; ((with_reducible refine (C2 _).mono ?_); rintro e w2 ⟨rfl, rfl⟩))
          | (go_at_call 34; ((with_reducible refine (C3 _).mono ?_); rintro e w2 ⟨rfl, rfl⟩)))
        go_ret
        exact ⟨ret_b HF.out.symm, grew_trans HG1.out (grew_alloc _ _ _)⟩
      · have HF : Hid (R = false) := by show _ = _; rw [HR.out, ← HN.out (by rw [HST.out, HOK.out]; rfl)]; rfl
        clear HN HY HST HKL HOK HPB HM HR HEV
        go_wp2_with (first
          | (go_at_call 57; ((with_reducible refine (C1 _).mono ?_); rintro e w1 ⟨rfl, hg⟩; have HG1 := Lib.hid (grew_trans HG.out (own_back hg)); have HX1 := Lib.hid (HX0.out.keep hg); have hN1 := HX1.out.lt; have x0 : w1.cell? ⟨wr.heap.size, 0, none⟩ = some (.int .i64 q1) := HX1.out.at 0 _ rfl; have x1 : w1.cell? ⟨wr.heap.size, 1, none⟩ = some (.int .i64 q2) := HX1.out.at 1 _ rfl; have x2 : w1.cell? ⟨wr.heap.size, 2, none⟩ = some (.int .i64 q3) := HX1.out.at 2 _ rfl; have x3 : w1.cell? ⟨wr.heap.size, 3, none⟩ = some (.int .i64 q4) := HX1.out.at 3 _ rfl; clear hg))
          | (go_at_call 31; ((with_reducible refine (C2 _).mono ?_); rintro e w2 ⟨rfl, rfl⟩))
          | (go_at_call 34; ((with_reducible refine (C3 _).mono ?_); rintro e w2 ⟨rfl, rfl⟩))
          | (go_at_call 58; ((with_reducible refine (CE _).mono ?_); rintro e w3 ⟨rfl, hg⟩; have HG3 := Lib.hid (grew_trans (grew_trans HG1.out (grew_alloc _ _ _)) hg); clear hg)))
        go_ret
        exact ⟨ret_b HF.out.symm, HG3.out⟩
      · have hok : ok = true := HOK.out
        subst hok
        have HKL2 : Hid (0 < j → kltB (p.1, p.2.1) (q1, q2) = lt) := fun h0 => HKL.out h0 rfl
        clear HOK HKL
        go_upto_region 6 with (first
          | (go_at_call 57; ((with_reducible refine (C1 _).mono ?_); rintro e w1 ⟨rfl, hg⟩; have HG1 := Lib.hid (grew_trans HG.out (own_back hg)); have HX1 := Lib.hid (HX0.out.keep hg); have hN1 := HX1.out.lt; have x0 : w1.cell? ⟨wr.heap.size, 0, none⟩ = some (.int .i64 q1) := HX1.out.at 0 _ rfl; have x1 : w1.cell? ⟨wr.heap.size, 1, none⟩ = some (.int .i64 q2) := HX1.out.at 1 _ rfl; have x2 : w1.cell? ⟨wr.heap.size, 2, none⟩ = some (.int .i64 q3) := HX1.out.at 2 _ rfl; have x3 : w1.cell? ⟨wr.heap.size, 3, none⟩ = some (.int .i64 q4) := HX1.out.at 3 _ rfl; have HGB := Lib.hid (own_back hg); clear hg))
          | (go_at_call 31; ((with_reducible refine (C2 _).mono ?_); rintro e w2 ⟨rfl, rfl⟩))
          | (go_at_call 34; ((with_reducible refine (C3 _).mono ?_); rintro e w2 ⟨rfl, rfl⟩))
          | (go_at_call 58; ((with_reducible refine (CE _).mono ?_); rintro e w3 ⟨rfl, hg⟩; have HG3 := Lib.hid (grew_trans (grew_trans HG1.out (grew_alloc _ _ _)) hg); have HX3 := Lib.hid ((HX1.out.keep (grew_alloc _ _ _)).keep hg); have HGC := Lib.hid (grew_trans (grew_trans HGB.out (grew_alloc _ _ _)) hg); clear hg x0 x1 x2 x3 hN1)))
        clear C1 C2 C3 CE HG1 HX1 HGB HX0
        have y0 := grew_every (w := w3) (S := fun w' => w'.cell? ⟨wr.heap.size, 0, none⟩ = some (.int .i64 q1)) (fun w' g => (HX3.out.keep g).at 0 _ rfl)
        have y1 := grew_every (w := w3) (S := fun w' => w'.cell? ⟨wr.heap.size, 1, none⟩ = some (.int .i64 q2)) (fun w' g => (HX3.out.keep g).at 1 _ rfl)
        cases j with
        | zero =>
          have HM2 := Lib.hid (HY.out.trans (by rw [HST.out]))
          clear HN HY HST HM HPB HKL2
          refine wp_region_grew (by kernel_rfl) (by kernel_rfl) ?_
          repeat (go_big_quiet_step (fail))
          refine wpQuiet_nil ?_
          intro w5 hw'
          have HG5 := Lib.hid (grew_of hw')
          clear hw' y0 y1
          go_wp2
          go_roundw
          case rel => exact ⟨1, by go_num, by omega, HM2.out, grew_trans HG3.out HG5.out⟩
          case measure => simp only [intOf]; omega
        | succ i =>
          obtain ⟨e0, e1, e2, e3⟩ := HPB.out (by omega)
          rw [show i + 1 - 1 = i from rfl] at e0 e1
          have HST2 : Hid (st = lt) := by show _ = _; rw [HST.out]; simp
          have q5 : IntKind.i64.wrap (((i + 1 : Nat) : Int) - 1) = (i : Int) := by rw [IntKind.wrap_i64]; omega
          have q6 : (0 : Int) < ((i + 1 : Nat) : Int) := by omega
          have q7 : (i : Int) < (n : Int) := by omega
          have q8 : (0 : Int) ≤ (i : Int) := by omega
          obtain ⟨p1, p2, p3, p4⟩ := p
          dsimp only at e0 e1
          have HKL3 := Lib.hid (HKL2.out (by omega))
          dsimp only at HKL3
          have CL := fun w' (g : Grew w3 w') => less_any p1 p2 q1 q2 w'
          dsimp only [vKy] at CL
          rw [HKL3.out] at CL
          have z0 := grew_every (w := w3) (S := fun w' => w'.cell? ⟨b, o + i * 4, none⟩ = some (.int .i64 p1)) (fun w' g => (grew_cell (grew_trans HGC.out g) (p := ⟨b, _, none⟩) HB.out).trans e0)
          have z1 := grew_every (w := w3) (S := fun w' => w'.cell? ⟨b, o + i * 4 + 1, none⟩ = some (.int .i64 p2)) (fun w' g => (grew_cell (grew_trans HGC.out g) (p := ⟨b, _, none⟩) HB.out).trans e1)
          clear HPB HST HKL2 HKL3 e0 e1 e2 e3
          cases lt
          · have HF : Hid (R = false) := by show _ = _; rw [HR.out, ← HN.out (by rw [HST2.out])]; rfl
            clear HN HY HST2 HM HR
            refine wp_region_grew (by kernel_rfl) (by kernel_rfl) ?_
            repeat (go_big_quiet_step (with_reducible exact calls_every CL))
            refine wpQuiet_nil ?_
            intro w5 hw'
            have HG5 := Lib.hid (grew_of hw')
            clear hw' y0 y1 z0 z1
            go_wp2
            go_ret
            exact ⟨ret_b HF.out.symm, grew_trans HG3.out HG5.out⟩
          · have HM2 := Lib.hid (HY.out.trans (by rw [HST2.out, HM.out]))
            clear HN HY HST2 HM
            refine wp_region_grew (by kernel_rfl) (by kernel_rfl) ?_
            repeat (go_big_quiet_step (with_reducible exact calls_every CL))
            refine wpQuiet_nil ?_
            intro w5 hw'
            have HG5 := Lib.hid (grew_of hw')
            clear hw' y0 y1 z0 z1
            go_wp2
            go_roundw
            case rel => exact ⟨i + 1 + 1, by go_num, by omega, HM2.out, grew_trans HG3.out HG5.out⟩
            case measure => simp only [intOf]; omega
    · obtain rfl : j = n := by omega
      have CV := HEV.out HM.out
      have HF : Hid (R = FL) := by show _ = _; rw [HR.out, HM.out]; rfl
      clear HEV HR HM
      go_wp2_with (go_at_call 60; ((with_reducible refine (CV _ HG.out).mono ?_); rintro e w1 ⟨rfl, hg⟩; have HG1 := Lib.hid (grew_trans HG.out hg); clear hg))
      go_ret
      exact ⟨ret_b HF.out.symm, HG1.out⟩
end Go.Proofs.YtahioajpmlochaaGreat.NumK
