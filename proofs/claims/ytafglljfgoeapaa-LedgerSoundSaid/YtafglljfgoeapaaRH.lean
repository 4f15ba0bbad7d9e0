/- entry.even: whether each currency's amounts add up to 0. -/
import Derived.Test.YtafglljfgoeapaaRF
import Derived.Test.YtafglljfgoeapaaRG
import Derived.ChangeKeysEq
import Derived.Laws.StructEq
namespace Go.Proofs.Ytafglljfgoeapaa.NumK
open Go.RowKit

/-- What stands of a currency. -/
def sumC (l : List Lg) (c : Int) : Int := ((l.filter fun x => decide (x.1.2.2 = c)).map (·.2)).sum
def evenL (l : List Lg) : Bool := decide (sumC l 0 = 0) && decide (sumC l 1 = 0) && decide (sumC l 2 = 0)
theorem sumC_snoc (l : List Lg) (j : Nat) (h : j < l.length) (c : Int) : sumC (l.take (j + 1)) c = sumC (l.take j) c + if (l.getD j lg0).1.2.2 = c then (l.getD j lg0).2 else 0 := by
  unfold sumC
  rw [take_snoc l j lg0 h, List.filter_append, List.map_append, List.sum_append]
  congr 1
  generalize l.getD j lg0 = x
  by_cases hc : x.1.2.2 = c
  · simp [hc]
  · simp [hc]
theorem sumC_bd (l : List Lg) (c : Int) (h : mayL l = true) : -(l.length * 4611686018427387904) ≤ sumC l c ∧ sumC l c ≤ l.length * 4611686018427387904 := by
  unfold mayL at h
  unfold sumC
  induction l with
  | nil => simp
  | cons x l ih =>
    simp only [List.all_cons, Bool.and_eq_true] at h
    have h1 := ih h.2
    have h2 : isMoney x.2 = true := by have := h.1; unfold okL at this; simp only [Bool.and_eq_true] at this; exact this.2
    rw [isMoney_iff] at h2
    rw [List.filter_cons]
    split
    · simp only [List.map_cons, List.sum_cons, List.length_cons]; omega
    · simp only [List.length_cons]; omega
theorem may_take (l : List Lg) (j : Nat) (h : mayL l = true) : mayL (l.take j) = true := by
  unfold mayL at *
  rw [List.all_eq_true] at *
  exact fun x hx => h x (List.mem_of_mem_take hx)
theorem may_at (l : List Lg) (j : Nat) (hj : j < l.length) (h : mayL l = true) : okL (l.getD j lg0) = true := by
  unfold mayL at h
  rw [List.all_eq_true] at h
  exact h _ (by rw [show l.getD j lg0 = l[j] by simp [List.getD, hj]]; exact List.getElem_mem hj)
theorem sumC_wide (l : List Lg) (c : Int) (h : mayL l = true) (hn : l.length ≤ 1000000) : isWide (sumC l c) = true := by
  have := sumC_bd l c h
  rw [isWide_iff]; omega

theorem range3 : List.range 3 = [0, 1, 2] := by decide
theorem run_equal3 (w : World) (a b c d e f : Int) (E : Bool) (h : E = ((decide (a = 0) && decide (b = 0)) && (decide (c = 0) && decide (d = 0)) && (decide (e = 0) && decide (f = 0)))) :
    (Op.equalIn 10000 95 (.agg #[.int .i64 a, .int .u64 b, .int .i64 c, .int .u64 d, .int .i64 e, .int .u64 f]) (.agg #[.int .i64 0, .int .u64 0, .int .i64 0, .int .u64 0, .int .i64 0, .int .u64 0])).run Try.prog w = .ok E w := by
  subst h
  obtain ⟨i, hi, _, _, _⟩ := info_parts info_wide
  have hc : Try.prog.cellsOf 86 = 2 := by kernel_rfl
  rw [run_equalIn_array w 9999 _ _ Try.underlying95 hi, hc, range3]
  simp only [Op.eqItems]
  go_simp
  repeat' split
  all_goals simp_all
theorem hl_zero (x : Int) : (decide (hi64 x = 0) && decide (lo64 x = 0)) = decide (x = 0) := by
  rw [Bool.eq_iff_iff]
  have := w_eq x
  simp only [Bool.and_eq_true, decide_eq_true_eq]
  constructor
  · rintro ⟨h1, h2⟩; rw [h1, h2] at this; omega
  · rintro rfl; decide

/-- Three sums in a block of the call's own. -/
structure Sums3 (w : World) (B : Nat) (s : Nat → Int) : Prop where
  lt : B < w.heap.size
  c0 : ∀ q, q < 3 → w.cell? ⟨B, q * 2, none⟩ = some (.int .i64 (hi64 (s q)))
  c1 : ∀ q, q < 3 → w.cell? ⟨B, q * 2 + 1, none⟩ = some (.int .u64 (lo64 (s q)))
  f0 : ∀ q, q < 3 → w.frozen? ⟨B, q * 2, none⟩ = false
  f1 : ∀ q, q < 3 → w.frozen? ⟨B, q * 2 + 1, none⟩ = false
theorem Sums3.keep {w w' : World} {B : Nat} {s : Nat → Int} (h : Sums3 w B s) (g : Grew w w') : Sums3 w' B s :=
  ⟨Nat.lt_of_lt_of_le h.lt g.size, fun q hq => (grew_cell g (p := ⟨B, q * 2, none⟩) h.lt).trans (h.c0 q hq), fun q hq => (grew_cell g (p := ⟨B, q * 2 + 1, none⟩) h.lt).trans (h.c1 q hq),
    fun q hq => (Below.frozen g (p := ⟨B, q * 2, none⟩) h.lt).trans (h.f0 q hq), fun q hq => (Below.frozen g (p := ⟨B, q * 2 + 1, none⟩) h.lt).trans (h.f1 q hq)⟩
theorem Sums3.new (w : World) (t : TypeId) : Sums3 (w.alloc (.cells #[.int .i64 0, .int .u64 0, .int .i64 0, .int .u64 0, .int .i64 0, .int .u64 0] t)) w.heap.size (fun _ => 0) := by
  refine ⟨by simp, fun q hq => ?_, fun q hq => ?_, fun q hq => by simp, fun q hq => by simp⟩
  · refine (World.cell?_alloc_at _ _ _ _ rfl).trans ?_
    match q, hq with
    | 0, _ => rfl
    | 1, _ => rfl
    | 2, _ => rfl
  · refine (World.cell?_alloc_at _ _ _ _ rfl).trans ?_
    match q, hq with
    | 0, _ => rfl
    | 1, _ => rfl
    | 2, _ => rfl
theorem Sums3.set {w : World} {B : Nat} {s s' : Nat → Int} (h : Sums3 w B s) (i : Nat) (hi : i < 3) (v : Int) (h1 : s' i = v) (h2 : ∀ q, q < 3 → q ≠ i → s' q = s q) :
    Sums3 ((w.setCell ⟨B, i * 2, none⟩ (.int .i64 (hi64 v))).setCell ⟨B, i * 2 + 1, none⟩ (.int .u64 (lo64 v))) B s' := by
  have ne : ∀ a b : Nat, a ≠ b → (⟨B, a, none⟩ : Addr) ≠ ⟨B, b, none⟩ := fun a b h e => h (by simp at e)
  refine ⟨by simp [World.setCell]; exact h.lt, fun q hq => ?_, fun q hq => ?_, fun q hq => by rw [World.frozen?_setCell, World.frozen?_setCell]; exact h.f0 q hq, fun q hq => by rw [World.frozen?_setCell, World.frozen?_setCell]; exact h.f1 q hq⟩
  · rw [World.cell?_setCell_other _ _ _ _ (ne _ _ (by omega))]
    by_cases c : q = i
    · subst c
      rw [World.cell?_setCell_same _ _ _ (h.c0 q hq), h1]
    · rw [World.cell?_setCell_other _ _ _ _ (ne _ _ (by omega)), h.c0 q hq, h2 q hq c]
  · by_cases c : q = i
    · subst c
      rw [World.cell?_setCell_same _ _ _ ((World.cell?_setCell_other _ _ _ _ (ne _ _ (by omega))).trans (h.c1 q hq)), h1]
    · rw [World.cell?_setCell_other _ _ _ _ (ne _ _ (by omega)), World.cell?_setCell_other _ _ _ _ (ne _ _ (by omega)), h.c1 q hq, h2 q hq c]

set_option maxRecDepth 100000 in
set_option maxHeartbeats 4000000 in
theorem even_any (A : Option Addr) (n c : Nat) (l : List Lg) (w : World) (h : RowE enLg w A n l) (hm : mayL l = true) (hn : n ≤ 1000000) :
    Calls Try.prog 50 #[.slice A n c] w fun e w' => e = .returned (.bool (evenL l)) ∧ Grew w w' := by
  have HI := Lib.hid h
  have HL := Lib.hid h.len
  have HM := Lib.hid hm
  clear h hm
  go_enter Try.func50, Try.ntmps50
  go_wp2
  go_loopw [8] (fun v8 wr => ∃ j : Nat, v8 = .int .i64 j ∧ j ≤ n ∧ Hid (Sums3 wr w.heap.size (fun q => sumC (l.take j) q)) ∧ Hid (Grew w wr)) (fun v8 _ => n - (intOf v8).toNat)
  case atStart => exact ⟨0, rfl, by omega, Sums3.new w _, grew_alloc _ _ _⟩
  case round =>
    obtain ⟨j, rfl, hj, HS, HG⟩ := hrel
    by_cases hlt : j < n
    · have hjl : j < l.length := by rw [HL.out]; exact hlt
      obtain ⟨b, o, rfl, hb, a1, a2, a3, a4⟩ := (HI.out.keep HG.out).lg hlt
      have hok := may_at l j hjl HM.out
      have hsn := fun c => sumC_snoc l j hjl c
      have hwa := fun c => sumC_wide (l.take j) c (may_take l j HM.out) (by rw [List.length_take]; omega)
      have hwb := fun c => sumC_wide (l.take (j + 1)) c (may_take l (j + 1) HM.out) (by rw [List.length_take]; omega)
      generalize l.getD j lg0 = x at *
      have hr : 0 ≤ x.1.2.2 ∧ x.1.2.2 < 3 := by unfold okL rightA at hok; simp only [Bool.and_eq_true, decide_eq_true_eq] at hok; exact hok.1.1.2
      have hy : -4611686018427387904 ≤ x.2 ∧ x.2 ≤ 4611686018427387904 := by unfold okL at hok; simp only [Bool.and_eq_true] at hok; exact (isMoney_iff _).1 hok.2
      obtain ⟨i, hi⟩ := Int.eq_ofNat_of_zero_le hr.1
      have hi3 : i < 3 := by omega
      have hx : sumC (l.take (j + 1)) i = sumC (l.take j) i + x.2 := by rw [hsn, hi]; simp
      have CP := fun w => plus_any (sumC (l.take j) i) x.2 w (hwa i) (by omega) (by rw [← hx]; exact hwb i)
      have HS2 : Hid (∀ w', Sums3 w' w.heap.size (fun q => sumC (l.take j) q) → Sums3 ((w'.setCell ⟨w.heap.size, i * 2, none⟩ (.int .i64 (hi64 (sumC (l.take j) i + x.2)))).setCell ⟨w.heap.size, i * 2 + 1, none⟩ (.int .u64 (lo64 (sumC (l.take j) i + x.2)))) w.heap.size (fun q => sumC (l.take (j + 1)) q)) :=
        fun w' h => h.set i hi3 _ hx (fun q hq hne => by
          show sumC _ _ = sumC _ _
          rw [hsn, hi, if_neg (by omega)]; simp)
      have c0 := HS.out.c0 i hi3
      have c1 := HS.out.c1 i hi3
      rw [hi] at a3
      have i1 : (j : Int) < (n : Int) := by omega
      have i2 : (i : Int) < 3 := by omega
      have hlt2 := HS.out.lt
      clear hsn hwa hwb hok hr hy hi hx hb
      have HPL : Hid (∀ w2, Grew (wr.alloc (.cells #[.int .i64 x.1.1, .int .i64 x.1.2.1, .int .i64 i, .int .i64 x.2] 53)).drew w2 → Grew wr w2 ∧ w2.cell? ⟨wr.heap.size, 2, none⟩ = some (.int .i64 i)) := fun w2 g =>
        ⟨grew_trans (grew_drew (grew_alloc _ _ _)) g, (grew_cell g (p := ⟨wr.heap.size, 2, none⟩) (by show _ < (World.alloc _ _).heap.size; simp)).trans (by show (World.alloc _ _).cell? _ = _; simp)⟩
      generalize hi64 (sumC (l.take j) i) = s1 at *
      generalize lo64 (sumC (l.take j) i) = s2 at *
      generalize hi64 (sumC (l.take j) i + x.2) = r1 at *
      generalize lo64 (sumC (l.take j) i + x.2) = r2 at *
      generalize x.1.1 = q1 at *
      generalize x.1.2.1 = q2 at *
      generalize x.2 = q4 at *
      have HW0 : Hid (Grew wr (wr.alloc (.cells #[.int .i64 q1, .int .i64 q2, .int .i64 i, .int .i64 q4] 53))) := grew_alloc _ _ _
      have m0 : (wr.alloc (.cells #[.int .i64 q1, .int .i64 q2, .int .i64 i, .int .i64 q4] 53)).cell? ⟨wr.heap.size, 2, none⟩ = some (.int .i64 i) ∧ (wr.alloc (.cells #[.int .i64 q1, .int .i64 q2, .int .i64 i, .int .i64 q4] 53)).cell? ⟨wr.heap.size, 3, none⟩ = some (.int .i64 q4) ∧ (wr.alloc (.cells #[.int .i64 q1, .int .i64 q2, .int .i64 i, .int .i64 q4] 53)).cell? ⟨w.heap.size, i * 2, none⟩ = some (.int .i64 s1) ∧ (wr.alloc (.cells #[.int .i64 q1, .int .i64 q2, .int .i64 i, .int .i64 q4] 53)).cell? ⟨w.heap.size, i * 2 + 1, none⟩ = some (.int .u64 s2) :=
        ⟨by simp, by simp, (grew_cell HW0.out (p := ⟨w.heap.size, i * 2, none⟩) hlt2).trans c0, (grew_cell HW0.out (p := ⟨w.heap.size, i * 2 + 1, none⟩) hlt2).trans c1⟩
      clear c0 c1 hlt2
      go_wp2
      generalize wr.alloc (.cells #[.int .i64 q1, .int .i64 q2, .int .i64 i, .int .i64 q4] 53) = w0 at m0 HPL HW0 ⊢
      obtain ⟨m1, m2, m3, m4⟩ := m0
      clear a1 a2 a3 a4 HW0
      go_region_with (go_at_call 59; ((with_reducible refine (CP _).mono ?_); rintro e w2 ⟨rfl, hg2⟩; obtain ⟨hgg, m1'⟩ := HPL.out w2 hg2; have k1 := HS.out.keep hgg; have e1 := k1.c0 i hi3; have e2 := k1.c1 i hi3; have e3 := k1.f0 i hi3; have e4 := k1.f1 i hi3))
      all_goals
        have HS3 := Lib.hid (HS2.out _ k1)
        have HG3 : Hid (Grew w ((w2.setCell ⟨w.heap.size, i * 2, none⟩ (.int .i64 r1)).setCell ⟨w.heap.size, i * 2 + 1, none⟩ (.int .u64 r2))) := grew_set (grew_set (grew_trans HG.out hgg) _ (Nat.le_refl _)) _ (Nat.le_refl _)
        clear HS2 k1 e1 e2 e3 e4 CP HPL m1 m2 m3 m4 hgg hg2 m1'
        go_wp2
        go_roundw
        case rel => exact ⟨j + 1, by go_num, by omega, HS3, HG3⟩
        case measure => simp only [intOf]; omega
    · obtain rfl : j = n := by omega
      rw [List.take_of_length_le (by rw [HL.out]; exact Nat.le_refl _)] at HS
      have hEq := run_equal3 wr (hi64 (sumC l 0)) (lo64 (sumC l 0)) (hi64 (sumC l 1)) (lo64 (sumC l 1)) (hi64 (sumC l 2)) (lo64 (sumC l 2)) (evenL l) (by rw [hl_zero, hl_zero, hl_zero]; rfl)
      have c0 := HS.out.c0 0 (by omega)
      have c1 := HS.out.c1 0 (by omega)
      have c2 := HS.out.c0 1 (by omega)
      have c3 := HS.out.c1 1 (by omega)
      have c4 := HS.out.c0 2 (by omega)
      have c5 := HS.out.c1 2 (by omega)
      go_wp2
      go_ret
      exact ⟨rfl, HG.out⟩
end Go.Proofs.Ytafglljfgoeapaa.NumK
