/- The greatest of a row (slices.Max). -/
import Derived.Test.YtodnllopokoicaaGreatRG16
import Derived.Test.YtodnllopokoicaaGreatRG9
import Derived.Test.YtodnllopokoicaaGreatRG1
import Derived.Test.YtodnllopokoicaaGreatRG2
namespace Go.Proofs.YtodnllopokoicaaGreat.NumK
open Go.RowKit
set_option linter.unusedVariables false

/-- The greatest of f 0 .. f k. -/
def mxN (f : Nat → Int) : Nat → Int
  | 0 => f 0
  | k + 1 => if mxN f k < f (k + 1) then f (k + 1) else mxN f k
theorem most_mx (f : Nat → Int) : ∀ k, mostV f (k + 1) = if 0 < mxN f k then mxN f k else 0
  | 0 => by unfold mostV mostV mxN; rfl
  | k + 1 => by
    have ih := most_mx f k
    show (if mostV f (k + 1) < f (k + 1) then f (k + 1) else mostV f (k + 1)) = _
    rw [ih]
    show _ = if 0 < (if mxN f k < f (k + 1) then f (k + 1) else mxN f k) then (if mxN f k < f (k + 1) then f (k + 1) else mxN f k) else 0
    by_cases h1 : mxN f k < f (k + 1) <;> by_cases h2 : 0 < mxN f k <;> simp only [h1, h2, if_true, if_false] <;> (try split) <;> omega

set_option maxRecDepth 100000 in
set_option maxHeartbeats 2000000 in
theorem maxRow_any (A : Option Addr) (n c : Nat) (zs : List Int) (w : World) (hz : Ints w A n zs) (h0 : 0 < n) (hn : n ≤ 1000000) :
    Calls Tryz.prog 93 #[.slice A n c] w fun e w' => e = .returned (.int .i64 (mxN (fun j => zs.getD j 0) (n - 1))) ∧ w = w' := by
  have HZ := Lib.hid hz
  obtain ⟨b, o, rfl, _, hc⟩ := hz.2 h0
  have HC := Lib.hid hc
  have c0 := hc 0 h0
  rw [Nat.add_zero] at c0
  have i9 : (0 : Int) < (n : Int) := by omega
  have i8 : ¬ (n : Int) < 1 := by omega
  clear hc
  go_enter Tryz.func93, Tryz.ntmps93
  go_wp2
  go_loopw [3, 4] (fun m v wr => ∃ j : Nat, v = .int .i64 j ∧ m = .int .i64 (mxN (fun j => zs.getD j 0) (j - 1)) ∧ 1 ≤ j ∧ j ≤ n ∧ w = wr) (fun _ v _ => n - (intOf v).toNat)
  case atStart => exact ⟨1, rfl, rfl, by omega, by omega, rfl⟩
  case round =>
    obtain ⟨j, rfl, rfl, h1, hj, rfl⟩ := hrel
    by_cases hlt : j < n
    · have cj := HC.out j hlt
      have i0 : (0 : Int) ≤ (j : Int) := by omega
      have i1 : (j : Int) < (n : Int) := by omega
      have HM : Hid (mxN (fun j => zs.getD j 0) (j + 1 - 1) = if mxN (fun j => zs.getD j 0) (j - 1) < zs.getD j 0 then zs.getD j 0 else mxN (fun j => zs.getD j 0) (j - 1)) := by
        obtain ⟨k, rfl⟩ : ∃ k, j = k + 1 := ⟨j - 1, by omega⟩
        show _ = _
        rfl
      clear c0
      generalize mxN (fun j => zs.getD j 0) (j - 1) = M at *
      generalize zs.getD j 0 = x at *
      go_wp2
      refine ⟨⟨j + 1, by go_num, by rw [HM.out], by omega, by omega, trivial⟩, ?_⟩
      simp only [intOf]; omega
    · obtain rfl : j = n := by omega
      go_wp2
      go_ret
      exact ⟨rfl, rfl⟩
/-- A block of six numbers, as a row. -/
theorem ints_own {w : World} {b : Nat} (f : Nat → Int) (h : OwnC w b [.int .i64 (f 0), .int .i64 (f 1), .int .i64 (f 2), .int .i64 (f 3), .int .i64 (f 4), .int .i64 (f 5)]) : Ints w (some ⟨b, 0, none⟩) 6 [f 0, f 1, f 2, f 3, f 4, f 5] := by
  refine ⟨rfl, fun _ => ⟨b, 0, rfl, h.lt, fun j hj => ?_⟩⟩
  rw [Nat.zero_add]
  rcases j with _ | _ | _ | _ | _ | _ | j
  · exact h.at 0 _ rfl
  · exact h.at 1 _ rfl
  · exact h.at 2 _ rfl
  · exact h.at 3 _ rfl
  · exact h.at 4 _ rfl
  · exact h.at 5 _ rfl
  · omega
end Go.Proofs.YtodnllopokoicaaGreat.NumK
namespace Go.Proofs.YtodnllopokoicaaGreat.NumK
open Go.RowKit
set_option linter.unusedVariables false

abbrev wvV (x : Int) : Value := .agg #[.int .i64 (hi64 x), .int .u64 (lo64 x)]
def lossI (j : Nat) (p : Po) (i : In) : Int := -p.2.2.1 * (i.1.2.2.1 * shJ i j)
def addI (p : Po) (i : In) : Int := absI p.2.2.1 * i.1.2.2.2.1
theorem loss_i {i : In} (hi : okIn i = true) {p : Po} (hq : okQ p.2.2.1 = true) {j : Nat} (hj : j < 6) : (lossI j p i).natAbs ≤ 1099511627776 * (1024 * 1073741824) ∧ (p.2.2.1.natAbs ≤ 1099511627776 ∧ i.1.2.2.1.natAbs ≤ 1024 ∧ (shJ i j).natAbs ≤ 1073741824) := by
  obtain ⟨⟨m1, m2⟩, _, hs⟩ := inst_add hi
  obtain ⟨s1, s2⟩ := hs j hj
  simp only [okQ, wi, Bool.and_eq_true, decide_eq_true_eq] at hq
  exact ⟨mul_abs (by omega) (mul_abs (by omega) (by omega)), by omega, by omega, by omega⟩
theorem add_i {i : In} (hi : okIn i = true) {p : Po} (hq : okQ p.2.2.1 = true) : (addI p i).natAbs ≤ 1099511627776 * 1073741824 ∧ p.2.2.1.natAbs ≤ 1099511627776 ∧ i.1.2.2.2.1.natAbs ≤ 1073741824 := by
  obtain ⟨_, ⟨a1, a2⟩, _⟩ := inst_add hi
  simp only [okQ, wi, Bool.and_eq_true, decide_eq_true_eq] at hq
  have := abs_facts p.2.2.1
  exact ⟨mul_abs (by omega) (by omega), by omega, by omega⟩

set_option maxRecDepth 100000 in
set_option maxHeartbeats 2000000 in
theorem lossFn_any (p : Po) (i : In) (j : Nat) (hj : j < 6) (N : Nat) (w : World) (hb : N < w.heap.size) (hN : w.cell? ⟨N, 0, none⟩ = some (.int .i64 j)) (hq : okQ p.2.2.1 = true) (hi : okIn i = true) :
    Calls Tryz.prog 131 #[vPo p, vIn i, .pointer (some ⟨N, 0, none⟩)] w fun e w' => e = .returned (wvV (lossI j p i)) ∧ Grew w w' := by
  obtain ⟨_, b1, b2, b3⟩ := loss_i hi hq hj
  have hV : lossI j p i = -p.2.2.1 * (i.1.2.2.1 * shJ i j) := rfl
  have hS : (shIn i)[j]? = some (shJ i j) := by
    unfold shJ
    rw [List.getD_eq_getElem?_getD, List.getElem?_eq_getElem (by simpa [shIn] using hj)]; rfl
  generalize lossI j p i = V at *
  generalize shJ i j = S at *
  clear hq hi
  obtain ⟨q1, q2, q3, q4⟩ := p
  obtain ⟨⟨t1, t2, t3, t4, t5, t6⟩, ⟨s1, s2, s3, s4, s5, s6⟩⟩ := i
  dsimp only at b1 b2 hV
  have bM := mul_abs (a := -q3) (b := t3) (A := 1099511627776) (by omega) b2
  have C1 := fun w => wtimes_any (-q3 * t3) S w (by omega) (by omega)
  have e1 : -q3 * t3 * S = V := by rw [hV, Int.mul_assoc]
  rw [e1] at C1
  have HM : IntKind.i64.wrap (IntKind.i64.wrap (-q3) * t3) = -q3 * t3 := by
    have : IntKind.i64.wrap (-q3) = -q3 := by rw [IntKind.wrap_i64]; omega
    rw [this, IntKind.wrap_i64]; omega
  rw [← HM] at C1
  clear HM e1 hV bM b1 b2 b3
  dsimp only [vPo, vIn, wvV]
  generalize hi64 V = v1 at *
  generalize lo64 V = v2 at *
  have HP0 : Hid (OwnC ((w.alloc (.cells #[.int .i64 q1, .int .i64 q2, .int .i64 q3, .int .i64 q4] 111)).alloc (.cells #[.int .i64 t1, .int .i64 t2, .int .i64 t3, .int .i64 t4, .int .i64 t5, .int .i64 t6, .int .i64 s1, .int .i64 s2, .int .i64 s3, .int .i64 s4, .int .i64 s5, .int .i64 s6] 105)) w.heap.size [.int .i64 q1, .int .i64 q2, .int .i64 q3, .int .i64 q4]) := (OwnC.new w [.int .i64 q1, .int .i64 q2, .int .i64 q3, .int .i64 q4] _ _ rfl).keep (grew_alloc _ _ _)
  have HI0 : Hid (OwnC ((w.alloc (.cells #[.int .i64 q1, .int .i64 q2, .int .i64 q3, .int .i64 q4] 111)).alloc (.cells #[.int .i64 t1, .int .i64 t2, .int .i64 t3, .int .i64 t4, .int .i64 t5, .int .i64 t6, .int .i64 s1, .int .i64 s2, .int .i64 s3, .int .i64 s4, .int .i64 s5, .int .i64 s6] 105)) (w.heap.size + 1) [.int .i64 t1, .int .i64 t2, .int .i64 t3, .int .i64 t4, .int .i64 t5, .int .i64 t6, .int .i64 s1, .int .i64 s2, .int .i64 s3, .int .i64 s4, .int .i64 s5, .int .i64 s6]) := OwnC.new _ [.int .i64 t1, .int .i64 t2, .int .i64 t3, .int .i64 t4, .int .i64 t5, .int .i64 t6, .int .i64 s1, .int .i64 s2, .int .i64 s3, .int .i64 s4, .int .i64 s5, .int .i64 s6] _ _ (by simp)
  have HG0 : Hid (Grew w ((w.alloc (.cells #[.int .i64 q1, .int .i64 q2, .int .i64 q3, .int .i64 q4] 111)).alloc (.cells #[.int .i64 t1, .int .i64 t2, .int .i64 t3, .int .i64 t4, .int .i64 t5, .int .i64 t6, .int .i64 s1, .int .i64 s2, .int .i64 s3, .int .i64 s4, .int .i64 s5, .int .i64 s6] 105))) := grew_trans (grew_alloc _ _ _) (grew_alloc _ _ _)
  have i0 : (0 : Int) ≤ (j : Int) := by omega
  have i1 : (j : Int) < 6 := by omega
  go_enter Tryz.func131, Tryz.ntmps131
  go_upto_region 1 with (fail)
  generalize hw0 : ((w.alloc (.cells #[.int .i64 q1, .int .i64 q2, .int .i64 q3, .int .i64 q4] 111)).alloc (.cells #[.int .i64 t1, .int .i64 t2, .int .i64 t3, .int .i64 t4, .int .i64 t5, .int .i64 t6, .int .i64 s1, .int .i64 s2, .int .i64 s3, .int .i64 s4, .int .i64 s5, .int .i64 s6] 105)) = w0 at *
  have HBS : Hid (w0.heap.size ≤ w.heap.size + 1 + 1) := by show _ ≤ _; rw [← hw0]; simp
  have HR1 : Hid (OwnC (w0.alloc (.cells #[.int .i64 0, .int .u64 0] 101)) (w.heap.size + 1 + 1) [.int .i64 0, .int .u64 0]) := OwnC.new _ [.int .i64 0, .int .u64 0] _ _ (by rw [← hw0]; simp)
  clear hw0
  have HG1 : Hid (Grew w0 (w0.alloc (.cells #[.int .i64 0, .int .u64 0] 101))) := grew_alloc _ _ _
  have HS : Hid (∀ w', Grew w0 w' → w'.cell? ⟨w.heap.size, 2, none⟩ = some (.int .i64 q3) ∧ w'.cell? ⟨w.heap.size + 1, 2, none⟩ = some (.int .i64 t3) ∧ w'.cell? ⟨N, 0, none⟩ = some (.int .i64 j) ∧ w'.cell? ⟨w.heap.size + 1, 6 + j, none⟩ = some (.int .i64 S)) := fun w' g => ⟨(HP0.out.keep g).at 2 _ rfl, (HI0.out.keep g).at 2 _ rfl, (grew_cell (grew_trans HG0.out g) (p := ⟨N, 0, none⟩) hb).trans hN, by
    refine (HI0.out.keep g).at (6 + j) _ ?_
    show ([Value.int .i64 t1, .int .i64 t2, .int .i64 t3, .int .i64 t4, .int .i64 t5, .int .i64 t6] ++ (shIn ((t1, t2, t3, t4, t5, t6), (s1, s2, s3, s4, s5, s6))).map (Value.int .i64))[6 + j]? = _
    rw [List.getElem?_append_right (by simp), List.getElem?_map]
    simp only [List.length_cons, List.length_nil, Nat.add_sub_cancel_left, Nat.zero_add]
    rw [hS]; rfl⟩
  clear HP0 HI0 hN hb hS
  generalize (w0.alloc (.cells #[.int .i64 0, .int .u64 0] 101)) = w1 at *
  go_region_held3 (fun w' => w'.cell? ⟨w.heap.size, 2, none⟩ = some (.int .i64 q3) ∧ w'.cell? ⟨w.heap.size + 1, 2, none⟩ = some (.int .i64 t3) ∧ w'.cell? ⟨N, 0, none⟩ = some (.int .i64 j) ∧ w'.cell? ⟨w.heap.size + 1, 6 + j, none⟩ = some (.int .i64 S))
    (first
      | (with_reducible exact HS.out _ (grew_drew HG1.out))
      | (with_reducible exact HS.out _ HG2.out)
      | (with_reducible exact HS.out _ (grew_set (grew_set HG2.out _ HBS.out) _ HBS.out)))
    (first
      | (go_at_call 92; (with_reducible refine (C1 _).mono ?_); rintro e w2 ⟨rfl, hg⟩; have HB2 := Lib.hid ((HR1.out.drew).keep hg); have HG2 : Hid (Grew w0 w2) := grew_trans (grew_drew HG1.out) hg; have y0 := HB2.out.at 0 (.int .i64 0) rfl; have y1 := HB2.out.at 1 (.int .u64 0) rfl; have f0 := HB2.out.fr 0 (by decide); have f1 := HB2.out.fr 1 (by decide); clear hg))
  all_goals
    (refine end_put (w := w0) (P := Exit.then _ _ Exit.normal _) [.int .i64 v1, .int .u64 v2] (by rfl) HB2.out HG2.out HBS.out ?_
     intro w5 h5 g5
     have z0 := h5.at 0 _ rfl
     have z1 := h5.at 1 _ rfl
     have HG5 := Lib.hid (grew_trans HG0.out g5)
     clear h5 g5
     apply_assumption
     go_wp2
     exact bodyPost_ret (v := .agg #[.int .i64 v1, .int .u64 v2]) (by simp [results, Tryz.results131, go_sem, z0, z1]) rfl ⟨rfl, HG5.out⟩)

set_option maxRecDepth 100000 in
set_option maxHeartbeats 2000000 in
theorem addFn_any (p : Po) (i : In) (w : World) (hq : okQ p.2.2.1 = true) (hi : okIn i = true) :
    Calls Tryz.prog 91 #[vPo p, vIn i] w fun e w' => e = .returned (wvV (addI p i)) ∧ Grew w w' := by
  obtain ⟨_, b1, b2⟩ := add_i hi hq
  have hV : addI p i = absI p.2.2.1 * i.1.2.2.2.1 := rfl
  have hA := abs_facts p.2.2.1
  have hA2 : absI p.2.2.1 = if -p.2.2.1 < p.2.2.1 then p.2.2.1 else -p.2.2.1 := rfl
  generalize addI p i = V at *
  generalize absI p.2.2.1 = B at *
  clear hq hi
  obtain ⟨q1, q2, q3, q4⟩ := p
  obtain ⟨⟨t1, t2, t3, t4, t5, t6⟩, ⟨s1, s2, s3, s4, s5, s6⟩⟩ := i
  dsimp only at b1 b2 hV hA hA2
  have C1 := fun w => wtimes_any t4 B w (by omega) (by omega)
  have e1 : t4 * B = V := by rw [hV, Int.mul_comm]
  rw [e1] at C1
  have HM : IntKind.i64.wrap (-q3) = -q3 := by rw [IntKind.wrap_i64]; omega
  have HM2 : wrap64 (-q3) = -q3 := by unfold wrap64; omega
  have HB : Hid ((if q3 < -q3 then -q3 else q3) = B) := by show _ = _; split <;> omega
  clear e1 hV b1 b2 hA hA2
  dsimp only [vPo, vIn, wvV]
  generalize hi64 V = v1 at *
  generalize lo64 V = v2 at *
  by_cases hs : q3 < -q3
  · have HB1 : B = -q3 := by have := HB.out; rw [if_pos hs] at this; exact this.symm
    subst HB1
    clear HB HM
    go_enter Tryz.func91, Tryz.ntmps91
    go_wp2_with (go_at_call 92; ((with_reducible refine (C1 _).mono ?_); rintro e w1 ⟨rfl, hg⟩; have HX : Hid (OwnC w1 (w.heap.size + 1 + 1) [.int .i64 0, .int .u64 0]) := (OwnC.new _ [.int .i64 0, .int .u64 0] _ _ (by simp)).keep hg; have x0 := HX.out.at 0 (.int .i64 0) rfl; have x1' := HX.out.at 1 (.int .u64 0) rfl; have f0 := HX.out.fr 0 (by decide); have f1 := HX.out.fr 1 (by decide); have HG : Hid (Grew w w1) := grew_trans (grew_trans (grew_trans (grew_alloc _ _ _) (grew_alloc _ _ _)) (grew_alloc _ _ _)) hg; clear hg))
    refine end_put (w := w) (P := bodyPost _ _ _ _ _) [.int .i64 v1, .int .u64 v2] (by rfl) HX.out HG.out (by omega) ?_
    intro w5 h5 g5
    have z0 := h5.at 0 _ rfl
    have z1 := h5.at 1 _ rfl
    exact bodyPost_ret (v := .agg #[.int .i64 v1, .int .u64 v2]) (by simp [results, Tryz.results91, go_sem, z0, z1]) rfl ⟨rfl, g5⟩
  · have HB1 : B = q3 := by have := HB.out; rw [if_neg hs] at this; exact this.symm
    subst HB1
    clear HB HM
    go_enter Tryz.func91, Tryz.ntmps91
    go_wp2_with (go_at_call 92; ((with_reducible refine (C1 _).mono ?_); rintro e w1 ⟨rfl, hg⟩; have HX : Hid (OwnC w1 (w.heap.size + 1 + 1) [.int .i64 0, .int .u64 0]) := (OwnC.new _ [.int .i64 0, .int .u64 0] _ _ (by simp)).keep hg; have x0 := HX.out.at 0 (.int .i64 0) rfl; have x1' := HX.out.at 1 (.int .u64 0) rfl; have f0 := HX.out.fr 0 (by decide); have f1 := HX.out.fr 1 (by decide); have HG : Hid (Grew w w1) := grew_trans (grew_trans (grew_trans (grew_alloc _ _ _) (grew_alloc _ _ _)) (grew_alloc _ _ _)) hg; clear hg))
    refine end_put (w := w) (P := bodyPost _ _ _ _ _) [.int .i64 v1, .int .u64 v2] (by rfl) HX.out HG.out (by omega) ?_
    intro w5 h5 g5
    have z0 := h5.at 0 _ rfl
    have z1 := h5.at 1 _ rfl
    exact bodyPost_ret (v := .agg #[.int .i64 v1, .int .u64 v2]) (by simp [results, Tryz.results91, go_sem, z0, z1]) rfl ⟨rfl, g5⟩
end Go.Proofs.YtodnllopokoicaaGreat.NumK
namespace Go.Proofs.YtodnllopokoicaaGreat.NumK
open Go.RowKit
set_option linter.unusedVariables false

set_option maxRecDepth 100000 in
set_option maxHeartbeats 2000000 in
theorem rfindIn_any (A1 A2 A3 : Option Addr) (n1 n2 n3 c1 c2 c3 : Nat) (l : List In) (m : Int) (w : World) (h : RowE enIn w A2 n2 l) (hn : n2 ≤ 1000000) :
    Calls Tryz.prog 49 #[.agg #[.slice A1 n1 c1, .slice A2 n2 c2, .slice A3 n3 c3], .int .i64 m] w fun e w' => e = .returned (.tuple #[vIn (findL noIn in0 l m), .bool (hasL noIn l m)]) ∧ Grew w w' := by
  have HI := Lib.hid h
  have HL := Lib.hid h.len
  have HY := Lib.hid (find_yes noIn in0 l m)
  have HZ := Lib.hid (find_no noIn in0 l m)
  generalize findL noIn in0 l m = F at *
  generalize hasL noIn l m = B at *
  clear h
  dsimp only [vIn]
  go_enter Tryz.func49, Tryz.ntmps49
  go_wp2
  have HG0 : Hid (Grew w ((w.alloc (.cells #[.slice A1 n1 c1, .slice A2 n2 c2, .slice A3 n3 c3] 28)).alloc (.cells #[.int .i64 0, .int .i64 0, .int .i64 0, .int .i64 0, .int .i64 0, .int .i64 0, .int .i64 0, .int .i64 0, .int .i64 0, .int .i64 0, .int .i64 0, .int .i64 0] 105))) := grew_trans (grew_alloc _ _ _) (grew_alloc _ _ _)
  have HX0 : Hid (OwnC ((w.alloc (.cells #[.slice A1 n1 c1, .slice A2 n2 c2, .slice A3 n3 c3] 28)).alloc (.cells #[.int .i64 0, .int .i64 0, .int .i64 0, .int .i64 0, .int .i64 0, .int .i64 0, .int .i64 0, .int .i64 0, .int .i64 0, .int .i64 0, .int .i64 0, .int .i64 0] 105)) w.heap.size [.slice A1 n1 c1, .slice A2 n2 c2, .slice A3 n3 c3]) := (OwnC.new w _ _ _ rfl).keep (grew_alloc _ _ _)
  have HO0 : Hid (OwnC ((w.alloc (.cells #[.slice A1 n1 c1, .slice A2 n2 c2, .slice A3 n3 c3] 28)).alloc (.cells #[.int .i64 0, .int .i64 0, .int .i64 0, .int .i64 0, .int .i64 0, .int .i64 0, .int .i64 0, .int .i64 0, .int .i64 0, .int .i64 0, .int .i64 0, .int .i64 0] 105)) (w.heap.size + 1) [.int .i64 0, .int .i64 0, .int .i64 0, .int .i64 0, .int .i64 0, .int .i64 0, .int .i64 0, .int .i64 0, .int .i64 0, .int .i64 0, .int .i64 0, .int .i64 0]) := OwnC.new _ _ _ _ (by simp)
  generalize (w.alloc (.cells #[.slice A1 n1 c1, .slice A2 n2 c2, .slice A3 n3 c3] 28)).alloc (.cells #[.int .i64 0, .int .i64 0, .int .i64 0, .int .i64 0, .int .i64 0, .int .i64 0, .int .i64 0, .int .i64 0, .int .i64 0, .int .i64 0, .int .i64 0, .int .i64 0] 105) = w0 at *
  go_loopw [6] (fun v wr => ∃ j : Nat, v = .int .i64 j ∧ j ≤ n2 ∧ Hid (∀ i, i < j → noIn (l.getD i in0) ≠ m) ∧ Hid (Grew w0 wr)) (fun v _ => n2 - (intOf v).toNat)
  case atStart => exact ⟨0, rfl, by omega, (by intro i hi; omega), grew_refl _⟩
  case round =>
    obtain ⟨j, rfl, hj, HK, HG1⟩ := hrel
    have HG := Lib.hid (grew_trans HG0.out HG1.out)
    have HO := Lib.hid (HO0.out.keep HG1.out)
    have px : wr.cell? ⟨w.heap.size, 1, none⟩ = some (.slice A2 n2 c2) := (HX0.out.keep HG1.out).at 1 _ rfl
    by_cases hlt : j < n2
    · obtain ⟨b, o, rfl, hb, hc⟩ := (HI.out.keep HG.out).in hlt
      obtain ⟨a0, a1, a2, a3, a4, a5, a6, a7, a8, a9, a10, a11⟩ := hc j hlt
      clear hc hb
      have HY1 := Lib.hid (HY.out j (by rw [HL.out]; exact hlt) HK.out)
      have HK1 : Hid (noIn (l.getD j in0) ≠ m → ∀ i, i < j + 1 → noIn (l.getD i in0) ≠ m) := fun h i hi => by
        rcases Nat.lt_or_ge i j with h1 | h1
        · exact HK.out i h1
        · obtain rfl : i = j := by omega
          exact h
      have HNX : Hid (noIn (l.getD j in0) = (l.getD j in0).1.1) := rfl
      have i0 : (0 : Int) ≤ (j : Int) := by omega
      have i1 : (j : Int) < (n2 : Int) := by omega
      generalize noIn (l.getD j in0) = nx at *
      generalize l.getD j in0 = x at *
      obtain ⟨⟨q1, q2, q3, q4, q5, q6⟩, ⟨q7, q8, q9, q10, q11, q12⟩⟩ := x
      dsimp only at a0 a1 a2 a3 a4 a5 a6 a7 a8 a9 a10 a11  HNX
      have he1 := HNX.out.symm
      subst he1
      by_cases he : q1 = m
      · subst he
        obtain ⟨rfl, rfl⟩ := HY1.out rfl
        clear HY HZ HY1 HK1 HK
        have r0 : wr.cell? ⟨w.heap.size + 1, 0, none⟩ = some (.int .i64 0) := HO.out.at 0 _ rfl; have r1 : wr.cell? ⟨w.heap.size + 1, 1, none⟩ = some (.int .i64 0) := HO.out.at 1 _ rfl; have r2 : wr.cell? ⟨w.heap.size + 1, 2, none⟩ = some (.int .i64 0) := HO.out.at 2 _ rfl; have r3 : wr.cell? ⟨w.heap.size + 1, 3, none⟩ = some (.int .i64 0) := HO.out.at 3 _ rfl; have r4 : wr.cell? ⟨w.heap.size + 1, 4, none⟩ = some (.int .i64 0) := HO.out.at 4 _ rfl; have r5 : wr.cell? ⟨w.heap.size + 1, 5, none⟩ = some (.int .i64 0) := HO.out.at 5 _ rfl; have r6 : wr.cell? ⟨w.heap.size + 1, 6, none⟩ = some (.int .i64 0) := HO.out.at 6 _ rfl; have r7 : wr.cell? ⟨w.heap.size + 1, 7, none⟩ = some (.int .i64 0) := HO.out.at 7 _ rfl; have r8 : wr.cell? ⟨w.heap.size + 1, 8, none⟩ = some (.int .i64 0) := HO.out.at 8 _ rfl; have r9 : wr.cell? ⟨w.heap.size + 1, 9, none⟩ = some (.int .i64 0) := HO.out.at 9 _ rfl; have r10 : wr.cell? ⟨w.heap.size + 1, 10, none⟩ = some (.int .i64 0) := HO.out.at 10 _ rfl; have r11 : wr.cell? ⟨w.heap.size + 1, 11, none⟩ = some (.int .i64 0) := HO.out.at 11 _ rfl
        have f0 : wr.frozen? ⟨w.heap.size + 1, 0, none⟩ = false := HO.out.fr 0 (by decide); have f1 : wr.frozen? ⟨w.heap.size + 1, 1, none⟩ = false := HO.out.fr 1 (by decide); have f2 : wr.frozen? ⟨w.heap.size + 1, 2, none⟩ = false := HO.out.fr 2 (by decide); have f3 : wr.frozen? ⟨w.heap.size + 1, 3, none⟩ = false := HO.out.fr 3 (by decide); have f4 : wr.frozen? ⟨w.heap.size + 1, 4, none⟩ = false := HO.out.fr 4 (by decide); have f5 : wr.frozen? ⟨w.heap.size + 1, 5, none⟩ = false := HO.out.fr 5 (by decide); have f6 : wr.frozen? ⟨w.heap.size + 1, 6, none⟩ = false := HO.out.fr 6 (by decide); have f7 : wr.frozen? ⟨w.heap.size + 1, 7, none⟩ = false := HO.out.fr 7 (by decide); have f8 : wr.frozen? ⟨w.heap.size + 1, 8, none⟩ = false := HO.out.fr 8 (by decide); have f9 : wr.frozen? ⟨w.heap.size + 1, 9, none⟩ = false := HO.out.fr 9 (by decide); have f10 : wr.frozen? ⟨w.heap.size + 1, 10, none⟩ = false := HO.out.fr 10 (by decide); have f11 : wr.frozen? ⟨w.heap.size + 1, 11, none⟩ = false := HO.out.fr 11 (by decide)
        go_wp2
        have HP := HO.out.all [.int .i64 q1, .int .i64 q2, .int .i64 q3, .int .i64 q4, .int .i64 q5, .int .i64 q6, .int .i64 q7, .int .i64 q8, .int .i64 q9, .int .i64 q10, .int .i64 q11, .int .i64 q12] rfl
        have HGP := grew_put (w.heap.size + 1) (Nat.le_succ _) [.int .i64 q1, .int .i64 q2, .int .i64 q3, .int .i64 q4, .int .i64 q5, .int .i64 q6, .int .i64 q7, .int .i64 q8, .int .i64 q9, .int .i64 q10, .int .i64 q11, .int .i64 q12] 0 _ HG.out
        change bodyPost _ _ _ _ _ (putC wr (w.heap.size + 1) 0 [.int .i64 q1, .int .i64 q2, .int .i64 q3, .int .i64 q4, .int .i64 q5, .int .i64 q6, .int .i64 q7, .int .i64 q8, .int .i64 q9, .int .i64 q10, .int .i64 q11, .int .i64 q12])
        generalize putC wr (w.heap.size + 1) 0 [.int .i64 q1, .int .i64 q2, .int .i64 q3, .int .i64 q4, .int .i64 q5, .int .i64 q6, .int .i64 q7, .int .i64 q8, .int .i64 q9, .int .i64 q10, .int .i64 q11, .int .i64 q12] = w9 at *
        have z0 : w9.cell? ⟨w.heap.size + 1, 0, none⟩ = _ := HP.at 0 _ rfl; have z1 : w9.cell? ⟨w.heap.size + 1, 1, none⟩ = _ := HP.at 1 _ rfl; have z2 : w9.cell? ⟨w.heap.size + 1, 2, none⟩ = _ := HP.at 2 _ rfl; have z3 : w9.cell? ⟨w.heap.size + 1, 3, none⟩ = _ := HP.at 3 _ rfl; have z4 : w9.cell? ⟨w.heap.size + 1, 4, none⟩ = _ := HP.at 4 _ rfl; have z5 : w9.cell? ⟨w.heap.size + 1, 5, none⟩ = _ := HP.at 5 _ rfl; have z6 : w9.cell? ⟨w.heap.size + 1, 6, none⟩ = _ := HP.at 6 _ rfl; have z7 : w9.cell? ⟨w.heap.size + 1, 7, none⟩ = _ := HP.at 7 _ rfl; have z8 : w9.cell? ⟨w.heap.size + 1, 8, none⟩ = _ := HP.at 8 _ rfl; have z9 : w9.cell? ⟨w.heap.size + 1, 9, none⟩ = _ := HP.at 9 _ rfl; have z10 : w9.cell? ⟨w.heap.size + 1, 10, none⟩ = _ := HP.at 10 _ rfl; have z11 : w9.cell? ⟨w.heap.size + 1, 11, none⟩ = _ := HP.at 11 _ rfl
        refine bodyPost_ret (v := .tuple #[.agg #[.int .i64 q1, .int .i64 q2, .int .i64 q3, .int .i64 q4, .int .i64 q5, .int .i64 q6, .int .i64 q7, .int .i64 q8, .int .i64 q9, .int .i64 q10, .int .i64 q11, .int .i64 q12], .bool true]) (by simp [results, Tryz.results49, go_sem, z0, z1, z2, z3, z4, z5, z6, z7, z8, z9, z10, z11]) rfl ?_
        exact ⟨rfl, HGP⟩
      · have he2 := he
        have HK2 := Lib.hid (HK1.out he2)
        clear HY HZ HY1 HK1 HK he2
        go_wp2
        go_roundw
        case rel => exact ⟨j + 1, by go_num, by omega, HK2.out, HG1.out⟩
        case measure => simp only [intOf]; omega
    · obtain rfl : j = n2 := by omega
      obtain ⟨rfl, rfl⟩ := HZ.out (fun i hi => HK.out i (by rw [HL.out] at hi; exact hi))
      clear HY HZ HK
      have r0 : wr.cell? ⟨w.heap.size + 1, 0, none⟩ = some (.int .i64 0) := HO.out.at 0 _ rfl; have r1 : wr.cell? ⟨w.heap.size + 1, 1, none⟩ = some (.int .i64 0) := HO.out.at 1 _ rfl; have r2 : wr.cell? ⟨w.heap.size + 1, 2, none⟩ = some (.int .i64 0) := HO.out.at 2 _ rfl; have r3 : wr.cell? ⟨w.heap.size + 1, 3, none⟩ = some (.int .i64 0) := HO.out.at 3 _ rfl; have r4 : wr.cell? ⟨w.heap.size + 1, 4, none⟩ = some (.int .i64 0) := HO.out.at 4 _ rfl; have r5 : wr.cell? ⟨w.heap.size + 1, 5, none⟩ = some (.int .i64 0) := HO.out.at 5 _ rfl; have r6 : wr.cell? ⟨w.heap.size + 1, 6, none⟩ = some (.int .i64 0) := HO.out.at 6 _ rfl; have r7 : wr.cell? ⟨w.heap.size + 1, 7, none⟩ = some (.int .i64 0) := HO.out.at 7 _ rfl; have r8 : wr.cell? ⟨w.heap.size + 1, 8, none⟩ = some (.int .i64 0) := HO.out.at 8 _ rfl; have r9 : wr.cell? ⟨w.heap.size + 1, 9, none⟩ = some (.int .i64 0) := HO.out.at 9 _ rfl; have r10 : wr.cell? ⟨w.heap.size + 1, 10, none⟩ = some (.int .i64 0) := HO.out.at 10 _ rfl; have r11 : wr.cell? ⟨w.heap.size + 1, 11, none⟩ = some (.int .i64 0) := HO.out.at 11 _ rfl
      have f0 : wr.frozen? ⟨w.heap.size + 1, 0, none⟩ = false := HO.out.fr 0 (by decide); have f1 : wr.frozen? ⟨w.heap.size + 1, 1, none⟩ = false := HO.out.fr 1 (by decide); have f2 : wr.frozen? ⟨w.heap.size + 1, 2, none⟩ = false := HO.out.fr 2 (by decide); have f3 : wr.frozen? ⟨w.heap.size + 1, 3, none⟩ = false := HO.out.fr 3 (by decide); have f4 : wr.frozen? ⟨w.heap.size + 1, 4, none⟩ = false := HO.out.fr 4 (by decide); have f5 : wr.frozen? ⟨w.heap.size + 1, 5, none⟩ = false := HO.out.fr 5 (by decide); have f6 : wr.frozen? ⟨w.heap.size + 1, 6, none⟩ = false := HO.out.fr 6 (by decide); have f7 : wr.frozen? ⟨w.heap.size + 1, 7, none⟩ = false := HO.out.fr 7 (by decide); have f8 : wr.frozen? ⟨w.heap.size + 1, 8, none⟩ = false := HO.out.fr 8 (by decide); have f9 : wr.frozen? ⟨w.heap.size + 1, 9, none⟩ = false := HO.out.fr 9 (by decide); have f10 : wr.frozen? ⟨w.heap.size + 1, 10, none⟩ = false := HO.out.fr 10 (by decide); have f11 : wr.frozen? ⟨w.heap.size + 1, 11, none⟩ = false := HO.out.fr 11 (by decide)
      go_wp2
      have HP := HO.out.all [.int .i64 0, .int .i64 0, .int .i64 0, .int .i64 0, .int .i64 0, .int .i64 0, .int .i64 0, .int .i64 0, .int .i64 0, .int .i64 0, .int .i64 0, .int .i64 0] rfl
      have HGP := grew_put (w.heap.size + 1) (Nat.le_succ _) [.int .i64 0, .int .i64 0, .int .i64 0, .int .i64 0, .int .i64 0, .int .i64 0, .int .i64 0, .int .i64 0, .int .i64 0, .int .i64 0, .int .i64 0, .int .i64 0] 0 _ HG.out
      change bodyPost _ _ _ _ _ (putC wr (w.heap.size + 1) 0 [.int .i64 0, .int .i64 0, .int .i64 0, .int .i64 0, .int .i64 0, .int .i64 0, .int .i64 0, .int .i64 0, .int .i64 0, .int .i64 0, .int .i64 0, .int .i64 0])
      generalize putC wr (w.heap.size + 1) 0 [.int .i64 0, .int .i64 0, .int .i64 0, .int .i64 0, .int .i64 0, .int .i64 0, .int .i64 0, .int .i64 0, .int .i64 0, .int .i64 0, .int .i64 0, .int .i64 0] = w9 at *
      have z0 : w9.cell? ⟨w.heap.size + 1, 0, none⟩ = _ := HP.at 0 _ rfl; have z1 : w9.cell? ⟨w.heap.size + 1, 1, none⟩ = _ := HP.at 1 _ rfl; have z2 : w9.cell? ⟨w.heap.size + 1, 2, none⟩ = _ := HP.at 2 _ rfl; have z3 : w9.cell? ⟨w.heap.size + 1, 3, none⟩ = _ := HP.at 3 _ rfl; have z4 : w9.cell? ⟨w.heap.size + 1, 4, none⟩ = _ := HP.at 4 _ rfl; have z5 : w9.cell? ⟨w.heap.size + 1, 5, none⟩ = _ := HP.at 5 _ rfl; have z6 : w9.cell? ⟨w.heap.size + 1, 6, none⟩ = _ := HP.at 6 _ rfl; have z7 : w9.cell? ⟨w.heap.size + 1, 7, none⟩ = _ := HP.at 7 _ rfl; have z8 : w9.cell? ⟨w.heap.size + 1, 8, none⟩ = _ := HP.at 8 _ rfl; have z9 : w9.cell? ⟨w.heap.size + 1, 9, none⟩ = _ := HP.at 9 _ rfl; have z10 : w9.cell? ⟨w.heap.size + 1, 10, none⟩ = _ := HP.at 10 _ rfl; have z11 : w9.cell? ⟨w.heap.size + 1, 11, none⟩ = _ := HP.at 11 _ rfl
      refine bodyPost_ret (v := .tuple #[.agg #[.int .i64 0, .int .i64 0, .int .i64 0, .int .i64 0, .int .i64 0, .int .i64 0, .int .i64 0, .int .i64 0, .int .i64 0, .int .i64 0, .int .i64 0, .int .i64 0], .bool false]) (by simp [results, Tryz.results49, go_sem, z0, z1, z2, z3, z4, z5, z6, z7, z8, z9, z10, z11]) rfl ?_
      exact ⟨rfl, HGP⟩

set_option maxRecDepth 100000 in
theorem pfindIn_any (A1 A2 A3 : Option Addr) (n1 n2 n3 c1 c2 c3 : Nat) (l : List In) (m : Int) (w : World) (h : RowE enIn w A2 n2 l) (_hn : n2 ≤ 1000000)
    (hC : ∀ w, RowE enIn w A2 n2 l → Calls Tryz.prog 144 #[.slice A2 n2 c2, .func (.func 61) #[] #[], .int .i64 m] w fun e w' => e = .returned (.tuple #[vIn (findL noIn in0 l m), .bool (hasL noIn l m)]) ∧ Grew w w') :
    Calls Tryz.prog 132 #[.agg #[.slice A1 n1 c1, .slice A2 n2 c2, .slice A3 n3 c3], .int .i64 m] w fun e w' => e = .returned (.tuple #[vIn (findL noIn in0 l m), .bool (hasL noIn l m)]) ∧ Grew w w' := by
  have HI := Lib.hid h
  have CF := fun w' (g : Grew w w') => hC w' (h.keep g)
  generalize findL noIn in0 l m = F at *
  generalize hasL noIn l m = B at *
  clear h
  obtain ⟨⟨q1, q2, q3, q4, q5, q6⟩, ⟨q7, q8, q9, q10, q11, q12⟩⟩ := F
  dsimp only [vIn] at CF ⊢
  have HO : Hid (OwnC ((w.alloc (.cells #[.slice A1 n1 c1, .slice A2 n2 c2, .slice A3 n3 c3] 28)).alloc (.cells #[.int .i64 0, .int .i64 0, .int .i64 0, .int .i64 0, .int .i64 0, .int .i64 0, .int .i64 0, .int .i64 0, .int .i64 0, .int .i64 0, .int .i64 0, .int .i64 0] 105)) (w.heap.size + 1) [.int .i64 0, .int .i64 0, .int .i64 0, .int .i64 0, .int .i64 0, .int .i64 0, .int .i64 0, .int .i64 0, .int .i64 0, .int .i64 0, .int .i64 0, .int .i64 0]) := OwnC.new _ _ _ _ (by simp)
  go_enter Tryz.func132, Tryz.ntmps132
  go_wp2_with (go_at_call 144; ((with_reducible refine (CF _ (grew_trans (grew_alloc _ _ _) (grew_alloc _ _ _))).mono ?_); rintro e w5 ⟨rfl, hg⟩; have HO5 := Lib.hid (HO.out.keep hg); have HG5 : Hid (Grew w w5) := grew_trans (grew_trans (grew_alloc _ _ _) (grew_alloc _ _ _)) hg; have r0 : w5.cell? ⟨w.heap.size + 1, 0, none⟩ = some (.int .i64 0) := HO5.out.at 0 _ rfl; have r1 : w5.cell? ⟨w.heap.size + 1, 1, none⟩ = some (.int .i64 0) := HO5.out.at 1 _ rfl; have r2 : w5.cell? ⟨w.heap.size + 1, 2, none⟩ = some (.int .i64 0) := HO5.out.at 2 _ rfl; have r3 : w5.cell? ⟨w.heap.size + 1, 3, none⟩ = some (.int .i64 0) := HO5.out.at 3 _ rfl; have r4 : w5.cell? ⟨w.heap.size + 1, 4, none⟩ = some (.int .i64 0) := HO5.out.at 4 _ rfl; have r5 : w5.cell? ⟨w.heap.size + 1, 5, none⟩ = some (.int .i64 0) := HO5.out.at 5 _ rfl; have r6 : w5.cell? ⟨w.heap.size + 1, 6, none⟩ = some (.int .i64 0) := HO5.out.at 6 _ rfl; have r7 : w5.cell? ⟨w.heap.size + 1, 7, none⟩ = some (.int .i64 0) := HO5.out.at 7 _ rfl; have r8 : w5.cell? ⟨w.heap.size + 1, 8, none⟩ = some (.int .i64 0) := HO5.out.at 8 _ rfl; have r9 : w5.cell? ⟨w.heap.size + 1, 9, none⟩ = some (.int .i64 0) := HO5.out.at 9 _ rfl; have r10 : w5.cell? ⟨w.heap.size + 1, 10, none⟩ = some (.int .i64 0) := HO5.out.at 10 _ rfl; have r11 : w5.cell? ⟨w.heap.size + 1, 11, none⟩ = some (.int .i64 0) := HO5.out.at 11 _ rfl; have f0 : w5.frozen? ⟨w.heap.size + 1, 0, none⟩ = false := HO5.out.fr 0 (by decide); have f1 : w5.frozen? ⟨w.heap.size + 1, 1, none⟩ = false := HO5.out.fr 1 (by decide); have f2 : w5.frozen? ⟨w.heap.size + 1, 2, none⟩ = false := HO5.out.fr 2 (by decide); have f3 : w5.frozen? ⟨w.heap.size + 1, 3, none⟩ = false := HO5.out.fr 3 (by decide); have f4 : w5.frozen? ⟨w.heap.size + 1, 4, none⟩ = false := HO5.out.fr 4 (by decide); have f5 : w5.frozen? ⟨w.heap.size + 1, 5, none⟩ = false := HO5.out.fr 5 (by decide); have f6 : w5.frozen? ⟨w.heap.size + 1, 6, none⟩ = false := HO5.out.fr 6 (by decide); have f7 : w5.frozen? ⟨w.heap.size + 1, 7, none⟩ = false := HO5.out.fr 7 (by decide); have f8 : w5.frozen? ⟨w.heap.size + 1, 8, none⟩ = false := HO5.out.fr 8 (by decide); have f9 : w5.frozen? ⟨w.heap.size + 1, 9, none⟩ = false := HO5.out.fr 9 (by decide); have f10 : w5.frozen? ⟨w.heap.size + 1, 10, none⟩ = false := HO5.out.fr 10 (by decide); have f11 : w5.frozen? ⟨w.heap.size + 1, 11, none⟩ = false := HO5.out.fr 11 (by decide); clear hg CF))
  have HP := HO5.out.all [.int .i64 q1, .int .i64 q2, .int .i64 q3, .int .i64 q4, .int .i64 q5, .int .i64 q6, .int .i64 q7, .int .i64 q8, .int .i64 q9, .int .i64 q10, .int .i64 q11, .int .i64 q12] rfl
  have HGP := grew_put (w.heap.size + 1) (Nat.le_succ _) [.int .i64 q1, .int .i64 q2, .int .i64 q3, .int .i64 q4, .int .i64 q5, .int .i64 q6, .int .i64 q7, .int .i64 q8, .int .i64 q9, .int .i64 q10, .int .i64 q11, .int .i64 q12] 0 _ HG5.out
  change bodyPost _ _ _ _ _ (putC w5 (w.heap.size + 1) 0 [.int .i64 q1, .int .i64 q2, .int .i64 q3, .int .i64 q4, .int .i64 q5, .int .i64 q6, .int .i64 q7, .int .i64 q8, .int .i64 q9, .int .i64 q10, .int .i64 q11, .int .i64 q12])
  generalize putC w5 (w.heap.size + 1) 0 [.int .i64 q1, .int .i64 q2, .int .i64 q3, .int .i64 q4, .int .i64 q5, .int .i64 q6, .int .i64 q7, .int .i64 q8, .int .i64 q9, .int .i64 q10, .int .i64 q11, .int .i64 q12] = w9 at *
  have z0 : w9.cell? ⟨w.heap.size + 1, 0, none⟩ = _ := HP.at 0 _ rfl; have z1 : w9.cell? ⟨w.heap.size + 1, 1, none⟩ = _ := HP.at 1 _ rfl; have z2 : w9.cell? ⟨w.heap.size + 1, 2, none⟩ = _ := HP.at 2 _ rfl; have z3 : w9.cell? ⟨w.heap.size + 1, 3, none⟩ = _ := HP.at 3 _ rfl; have z4 : w9.cell? ⟨w.heap.size + 1, 4, none⟩ = _ := HP.at 4 _ rfl; have z5 : w9.cell? ⟨w.heap.size + 1, 5, none⟩ = _ := HP.at 5 _ rfl; have z6 : w9.cell? ⟨w.heap.size + 1, 6, none⟩ = _ := HP.at 6 _ rfl; have z7 : w9.cell? ⟨w.heap.size + 1, 7, none⟩ = _ := HP.at 7 _ rfl; have z8 : w9.cell? ⟨w.heap.size + 1, 8, none⟩ = _ := HP.at 8 _ rfl; have z9 : w9.cell? ⟨w.heap.size + 1, 9, none⟩ = _ := HP.at 9 _ rfl; have z10 : w9.cell? ⟨w.heap.size + 1, 10, none⟩ = _ := HP.at 10 _ rfl; have z11 : w9.cell? ⟨w.heap.size + 1, 11, none⟩ = _ := HP.at 11 _ rfl
  refine bodyPost_ret (v := .tuple #[.agg #[.int .i64 q1, .int .i64 q2, .int .i64 q3, .int .i64 q4, .int .i64 q5, .int .i64 q6, .int .i64 q7, .int .i64 q8, .int .i64 q9, .int .i64 q10, .int .i64 q11, .int .i64 q12], .bool B]) (by simp [results, Tryz.results132, go_sem, z0, z1, z2, z3, z4, z5, z6, z7, z8, z9, z10, z11]) rfl ?_
  exact ⟨rfl, HGP⟩
end Go.Proofs.YtodnllopokoicaaGreat.NumK
