/- Ledgers in memory: what an account has; the program's and the reference's. -/
import Derived.Test.YtodnllopokoicaaGreatRG26
import Derived.Laws.StructEq
import Derived.Test.YtodnllopokoicaaGreatRG2
import Derived.Test.YtodnllopokoicaaGreatRG25
import Derived.Test.YtodnllopokoicaaGreatRG15
import Derived.Deep.RegionHeld3
namespace Go.Proofs.YtodnllopokoicaaGreat.NumK
open Go.RowKit

def ldV (last : Int) (A : Option Addr) (n c : Nat) : Value := .agg #[.int .i64 last, .slice A n c]
theorem info_bal : (Tryz.prog.info? 119).map (fun i => (i.zero, i.size, i.bytes)) = some (some (legV 0 0 0 0), 4, 32) := by kernel_rfl

theorem run_equalAc (w : World) (a b c d e f : Int) (E : Bool) (h : E = sameA a b c d e f) :
    (Op.equalIn 10000 53 (.agg #[.int .i64 a, .int .i64 b, .int .i64 c]) (.agg #[.int .i64 d, .int .i64 e, .int .i64 f])).run Tryz.prog w = .ok E w := by
  subst h
  rw [run_equalIn_struct w 9999 _ _ _ (by kernel_rfl) (by kernel_rfl)]
  go_simp
  unfold sameA
  repeat' split
  all_goals simp_all

set_option maxRecDepth 100000 in
theorem lof_any (last : Int) (A : Option Addr) (n c : Nat) (l : List Lg) (k m r : Int) (w : World) (h : RowE enLg w A n l) (hn : n ≤ 1000000) :
    Calls Tryz.prog 24 #[ldV last A n c, acV k m r] w fun e w' => e = .returned (.int .i64 (ofL l (k, m, r))) ∧ Grew w w' := by
  have HI := Lib.hid h
  have HL := Lib.hid h.len
  have HF := Lib.hid (ofL_found l (k, m, r))
  have HNo := Lib.hid (ofL_none l (k, m, r))
  generalize ofL l (k, m, r) = R at *
  clear h
  unfold ldV acV
  go_enter Tryz.func24, Tryz.ntmps24
  go_wp2
  go_loopw [10] (fun v wr => ∃ j : Nat, v = .int .i64 j ∧ j ≤ n ∧ Hid (∀ i, i < j → (l.getD i lg0).1 ≠ (k, m, r)) ∧ Hid (Grew ((w.alloc (.cells #[.int .i64 last, .slice A n c] 35)).alloc (.cells #[.int .i64 k, .int .i64 m, .int .i64 r] 53)) wr)) (fun v _ => n - (intOf v).toNat)
  case atStart => exact ⟨0, rfl, by omega, (by intro i hi; omega), grew_refl _⟩
  case round =>
    obtain ⟨j, rfl, hj, HK, HG⟩ := hrel
    obtain ⟨t1, t2, hg0⟩ := two_cells HG.out
    have HG0 := Lib.hid hg0
    have q0 : wr.cell? ⟨w.heap.size + 1, 0, none⟩ = some (.int .i64 k) := t2 0
    have q1 : wr.cell? ⟨w.heap.size + 1, 1, none⟩ = some (.int .i64 m) := t2 1
    have q2 : wr.cell? ⟨w.heap.size + 1, 2, none⟩ = some (.int .i64 r) := t2 2
    have hQ : w.heap.size + 1 < wr.heap.size := by have := HG.out.size; simp at this; omega
    clear t1 t2 hg0
    by_cases hlt : j < n
    · obtain ⟨b, o, rfl, hb, a1, a2, a3, a4⟩ := (HI.out.keep HG0.out).lg hlt
      have hjl : j < l.length := by rw [HL.out]; exact hlt
      have HF1 := Lib.hid (HF.out j hjl HK.out)
      have HK1 : Hid ((l.getD j lg0).1 ≠ (k, m, r) → ∀ i, i < j + 1 → (l.getD i lg0).1 ≠ (k, m, r)) := fun h i hi => by
        rcases Nat.lt_or_ge i j with h1 | h1
        · exact HK.out i h1
        · obtain rfl : i = j := by omega
          exact h
      have hE := fun w => run_equalAc w (l.getD j lg0).1.1 (l.getD j lg0).1.2.1 (l.getD j lg0).1.2.2 k m r _ rfl
      rw [sameA_iff (l.getD j lg0).1 (k, m, r)] at hE
      have i0 : (0 : Int) ≤ (j : Int) := by omega
      have i1 : (j : Int) < (n : Int) := by omega
      clear hb
      generalize l.getD j lg0 = x at *
      by_cases hx : x.1 = (k, m, r)
      · rw [decide_eq_true hx] at hE
        have HR := Lib.hid (HF1.out hx)
        clear hx HF1 HK1
        go_wp2
        go_ret
        exact ⟨ret_i HR.out.symm, grew_trans HG0.out (grew_alloc _ _ _)⟩
      · rw [decide_eq_false hx] at hE
        have HK2 := Lib.hid (HK1.out hx)
        clear hx HF1 HK1
        go_wp2
        go_roundw
        case rel => exact ⟨j + 1, by go_num, by omega, HK2.out, grew_trans HG.out (grew_alloc _ _ _)⟩
        case measure => simp only [intOf]; omega
    · obtain rfl : j = n := by omega
      have HR := Lib.hid (HNo.out (fun i hi => HK.out i (by rw [HL.out] at hi; exact hi)))
      go_wp2
      go_ret
      exact ⟨ret_i HR.out.symm, HG0.out⟩

end Go.Proofs.YtodnllopokoicaaGreat.NumK
namespace Go.Proofs.YtodnllopokoicaaGreat.NumK
open Go.RowKit

theorem three_new (w : World) (c1 c2 c3 : Array Value) (t1 t2 t3 : TypeId) :
    (∀ i, (((w.alloc (.cells c1 t1)).alloc (.cells c2 t2)).alloc (.cells c3 t3)).cell? ⟨w.heap.size, i, none⟩ = c1[i]?) ∧ (∀ i, (((w.alloc (.cells c1 t1)).alloc (.cells c2 t2)).alloc (.cells c3 t3)).cell? ⟨w.heap.size + 1, i, none⟩ = c2[i]?) ∧ (∀ i, (((w.alloc (.cells c1 t1)).alloc (.cells c2 t2)).alloc (.cells c3 t3)).cell? ⟨w.heap.size + 1 + 1, i, none⟩ = c3[i]?)
    ∧ (∀ b i, b < w.heap.size + 3 → w.heap.size ≤ b → (((w.alloc (.cells c1 t1)).alloc (.cells c2 t2)).alloc (.cells c3 t3)).frozen? ⟨b, i, none⟩ = false) := by
  have s1 : (w.alloc (.cells c1 t1)).heap.size = w.heap.size + 1 := by simp
  have s2 : ((w.alloc (.cells c1 t1)).alloc (.cells c2 t2)).heap.size = w.heap.size + 1 + 1 := by simp
  refine ⟨fun i => ?_, fun i => ?_, fun i => ?_, fun b i h1 h2 => ?_⟩
  · rw [World.cell?_alloc_lt _ _ _ (by show w.heap.size < _; omega), World.cell?_alloc_lt _ _ _ (by show w.heap.size < _; omega), World.cell?_alloc_at _ _ _ _ rfl]
  · rw [World.cell?_alloc_lt _ _ _ (by show w.heap.size + 1 < _; omega), World.cell?_alloc_at _ _ _ _ s1.symm]
  · rw [World.cell?_alloc_at _ _ _ _ s2.symm]
  · have : b = w.heap.size ∨ b = w.heap.size + 1 ∨ b = w.heap.size + 1 + 1 := by omega
    rcases this with rfl | rfl | rfl
    · go_simp
    · go_simp
    · go_simp

set_option maxRecDepth 100000 in
theorem twinLedger_any (last : Int) (A : Option Addr) (n c : Nat) (l : List Lg) (w : World) (h : RowE enLg w A n l) (hA : A = none → c = 0) (hn : n ≤ 1000000) :
    Calls Tryz.prog 19 #[ldV last A n c] w fun e w' => ∃ A' c', e = .returned (ldV last A' n c') ∧ OwnE enLg w' w.heap.size 119 (.slice A' n c') l ∧ Grew w w' := by
  have HI := Lib.hid h
  have HL := Lib.hid h.len
  have HA := Lib.hid hA
  clear h hA
  obtain ⟨-, n1, n2, n3⟩ := three_new w #[.int .i64 last, .slice A n c] #[.int .i64 0, .slice none 0 0] #[.int .i64 last, .slice none 0 0] 35 35 35
  have N1 := Lib.hid n1
  have N2 := Lib.hid n2
  have N3 := Lib.hid n3
  clear n1 n2 n3
  unfold ldV
  go_enter Tryz.func19, Tryz.ntmps19
  go_wp2_with (at_builtin; refine (wpList_append_E rfl _ _ 33 119 (legV 0 0 0 0) 32 rfl Tryz.underlying33 info_bal rfl (w.heap.size + 3) _ [] rfl (OwnE.nil enLg _ _ _) A n c l rfl HA.out (HI.out.keep (grew_trans (grew_alloc _ _ _) (grew_trans (grew_alloc _ _ _) (grew_alloc _ _ _)))) (by simp; unfold maxLen; omega) (by simp; omega) (by simp) ?_); intro v' w' ho hb; have d0 := below_cell (b := w.heap.size + 1 + 1) (i := 0) (v := .int .i64 last) hb (by omega) (N2.out 0); have d1 := below_cell (b := w.heap.size + 1 + 1) (i := 1) (v := .slice none 0 0) hb (by omega) (N2.out 1); have e0 := below_cell (b := w.heap.size + 1) (i := 0) (v := .int .i64 0) hb (by omega) (N1.out 0); have e1 := below_cell (b := w.heap.size + 1) (i := 1) (v := .slice none 0 0) hb (by omega) (N1.out 1); have f1 := below_froz (b := w.heap.size + 1 + 1) (i := 1) hb (by omega) (N3.out _ _ (by omega) (by omega)); have f2 := below_froz (b := w.heap.size + 1) (i := 0) hb (by omega) (N3.out _ _ (by omega) (by omega)); have f3 := below_froz (b := w.heap.size + 1) (i := 1) hb (by omega) (N3.out _ _ (by omega) (by omega)); rw [List.nil_append] at ho; obtain ⟨A', c', rfl, -⟩ := ho.form; have HO := Lib.hid ho; have HE : Hid (Own2 w' (w.heap.size + 1) (.int .i64 0) (.slice none 0 0)) := ⟨e0, e1, f2, f3, by have := hb.size; simp at this; omega⟩; have HB : Hid (Grew w w') := Below.trans (grew_trans (grew_alloc _ _ _) (grew_trans (grew_alloc _ _ _) (grew_alloc _ _ _))) (Below.mono hb (by omega)); clear ho hb)
  have HE2 := (HE.out.other ⟨w.heap.size + 1 + 1, 1, none⟩ (.slice A' l.length c') (by show _ + 1 + 1 ≠ _ + 1; omega)).set (.int .i64 last) (.slice A' l.length c')
  have r0 := HE2.c0
  have r1 := HE2.c1
  refine bodyPost_ret (v := .agg #[.int .i64 last, .slice A' l.length c']) (by simp [results, Tryz.results19, go_sem, r0, r1]) rfl ?_
  have HO2 := ((HO.out.set (w.heap.size + 1 + 1) 1 (.slice A' l.length c') (by omega)).set (w.heap.size + 1) 0 (.int .i64 last) (by omega)).set (w.heap.size + 1) 1 (.slice A' l.length c') (by omega)
  rw [HL.out] at HO2 ⊢
  exact ⟨A', c', rfl, HO2.mono (by omega), grew_set (grew_set (grew_set HB.out _ (by show _ ≤ w.heap.size + 1 + 1; omega)) _ (by show _ ≤ w.heap.size + 1; omega)) _ (by show _ ≤ w.heap.size + 1; omega)⟩

end Go.Proofs.YtodnllopokoicaaGreat.NumK
namespace Go.Proofs.YtodnllopokoicaaGreat.NumK
open Go.RowKit
set_option linter.unusedVariables false

end Go.Proofs.YtodnllopokoicaaGreat.NumK
