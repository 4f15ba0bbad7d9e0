/- Ledgers in memory: what an account has; the program's and the reference's. -/
import Derived.Test.YtodnllopokoicaaGreatRH26
import Derived.Laws.StructEq
import Derived.Test.YtodnllopokoicaaGreatRH2
import Derived.Test.YtodnllopokoicaaGreatRH25
import Derived.Test.YtodnllopokoicaaGreatRH15
import Derived.Deep.RegionHeld3
namespace Go.Proofs.YtodnllopokoicaaGreat.NumK
open Go.RowKit

def ldV (last : Int) (A : Option Addr) (n c : Nat) : Value := .agg #[.int .i64 last, .slice A n c]
theorem info_bal : (Tryz.prog.info? 119).map (fun i => (i.zero, i.size, i.bytes)) = some (some (legV 0 0 0 0), 4, 32) := by kernel_rfl

theorem run_equalAc (w : World) (a b c d e f : Int) (E : Bool) (h : E = sameA a b c d e f) :
    (Op.equalIn 10000 53 (.agg #[.int .i64 a, .int .i64 b, .int .i64 c]) (.agg #[.int .i64 d, .int .i64 e, .int .i64 f])).run Tryz.prog w = .ok E w := by
  subst h
  rw [run_equalIn_struct w 9999 _ _ _ (by kernel_rfl) (by kernel_rfl)]
  go_simp
  unfold sameA
  repeat' split
  all_goals simp_all

set_option maxRecDepth 100000 in
theorem lof_any (last : Int) (A : Option Addr) (n c : Nat) (l : List Lg) (k m r : Int) (w : World) (h : RowE enLg w A n l) (hn : n ≤ 1000000) :
    Calls Tryz.prog 24 #[ldV last A n c, acV k m r] w fun e w' => e = .returned (.int .i64 (ofL l (k, m, r))) ∧ Grew w w' := by
  have HI := Lib.hid h
  have HL := Lib.hid h.len
  have HF := Lib.hid (ofL_found l (k, m, r))
  have HNo := Lib.hid (ofL_none l (k, m, r))
  generalize ofL l (k, m, r) = R at *
  clear h
  unfold ldV acV
  go_enter Tryz.func24, Tryz.ntmps24
  go_wp2
  go_loopw [10] (fun v wr => ∃ j : Nat, v = .int .i64 j ∧ j ≤ n ∧ Hid (∀ i, i < j → (l.getD i lg0).1 ≠ (k, m, r)) ∧ Hid (Grew ((w.alloc (.cells #[.int .i64 last, .slice A n c] 35)).alloc (.cells #[.int .i64 k, .int .i64 m, .int .i64 r] 53)) wr)) (fun v _ => n - (intOf v).toNat)
  case atStart => exact ⟨0, rfl, by omega, (by intro i hi; omega), grew_refl _⟩
  case round =>
    obtain ⟨j, rfl, hj, HK, HG⟩ := hrel
    obtain ⟨t1, t2, hg0⟩ := two_cells HG.out
    have HG0 := Lib.hid hg0
    have q0 : wr.cell? ⟨w.heap.size + 1, 0, none⟩ = some (.int .i64 k) := t2 0
    have q1 : wr.cell? ⟨w.heap.size + 1, 1, none⟩ = some (.int .i64 m) := t2 1
    have q2 : wr.cell? ⟨w.heap.size + 1, 2, none⟩ = some (.int .i64 r) := t2 2
    have hQ : w.heap.size + 1 < wr.heap.size := by have := HG.out.size; simp at this; omega
    clear t1 t2 hg0
    by_cases hlt : j < n
    · obtain ⟨b, o, rfl, hb, a1, a2, a3, a4⟩ := (HI.out.keep HG0.out).lg hlt
      have hjl : j < l.length := by rw [HL.out]; exact hlt
      have HF1 := Lib.hid (HF.out j hjl HK.out)
      have HK1 : Hid ((l.getD j lg0).1 ≠ (k, m, r) → ∀ i, i < j + 1 → (l.getD i lg0).1 ≠ (k, m, r)) := fun h i hi => by
        rcases Nat.lt_or_ge i j with h1 | h1
        · exact HK.out i h1
        · obtain rfl : i = j := by omega
          exact h
      have hE := fun w => run_equalAc w (l.getD j lg0).1.1 (l.getD j lg0).1.2.1 (l.getD j lg0).1.2.2 k m r _ rfl
      rw [sameA_iff (l.getD j lg0).1 (k, m, r)] at hE
      have i0 : (0 : Int) ≤ (j : Int) := by omega
      have i1 : (j : Int) < (n : Int) := by omega
      clear hb
      generalize l.getD j lg0 = x at *
      by_cases hx : x.1 = (k, m, r)
      · rw [decide_eq_true hx] at hE
        have HR := Lib.hid (HF1.out hx)
        clear hx HF1 HK1
        go_wp2
        go_ret
        exact ⟨ret_i HR.out.symm, grew_trans HG0.out (grew_alloc _ _ _)⟩
      · rw [decide_eq_false hx] at hE
        have HK2 := Lib.hid (HK1.out hx)
        clear hx HF1 HK1
        go_wp2
        go_roundw
        case rel => exact ⟨j + 1, by go_num, by omega, HK2.out, grew_trans HG.out (grew_alloc _ _ _)⟩
        case measure => simp only [intOf]; omega
    · obtain rfl : j = n := by omega
      have HR := Lib.hid (HNo.out (fun i hi => HK.out i (by rw [HL.out] at hi; exact hi)))
      go_wp2
      go_ret
      exact ⟨ret_i HR.out.symm, HG0.out⟩

set_option maxRecDepth 100000 in
theorem lrof_any (last : Int) (A : Option Addr) (n c : Nat) (l : List Lg) (k m r : Int) (w : World) (h : RowE enLg w A n l) (hn : n ≤ 1000000) :
    Calls Tryz.prog 31 #[ldV last A n c, acV k m r] w fun e w' => e = .returned (.int .i64 (ofL l (k, m, r))) ∧ Grew w w' := by
  have HI := Lib.hid h
  have HL := Lib.hid h.len
  have HF := Lib.hid (ofL_found l (k, m, r))
  have HNo := Lib.hid (ofL_none l (k, m, r))
  generalize ofL l (k, m, r) = R at *
  clear h
  unfold ldV acV
  go_enter Tryz.func31, Tryz.ntmps31
  go_wp2
  go_loopw [5] (fun v wr => ∃ j : Nat, v = .int .i64 j ∧ j ≤ n ∧ Hid (∀ i, i < j → (l.getD i lg0).1 ≠ (k, m, r)) ∧ Hid (Grew ((w.alloc (.cells #[.int .i64 last, .slice A n c] 35)).alloc (.cells #[.int .i64 k, .int .i64 m, .int .i64 r] 53)) wr)) (fun v _ => n - (intOf v).toNat)
  case atStart => exact ⟨0, rfl, by omega, (by intro i hi; omega), grew_refl _⟩
  case round =>
    obtain ⟨j, rfl, hj, HK, HG⟩ := hrel
    obtain ⟨t1, t2, hg0⟩ := two_cells HG.out
    have HG0 := Lib.hid hg0
    have p1 : wr.cell? ⟨w.heap.size, 1, none⟩ = some (.slice A n c) := t1 1
    have q0 : wr.cell? ⟨w.heap.size + 1, 0, none⟩ = some (.int .i64 k) := t2 0
    have q1 : wr.cell? ⟨w.heap.size + 1, 1, none⟩ = some (.int .i64 m) := t2 1
    have q2 : wr.cell? ⟨w.heap.size + 1, 2, none⟩ = some (.int .i64 r) := t2 2
    have hQ : w.heap.size + 1 < wr.heap.size := by have := HG.out.size; simp at this; omega
    clear t1 t2 hg0
    by_cases hlt : j < n
    · obtain ⟨b, o, rfl, hb, a1, a2, a3, a4⟩ := (HI.out.keep HG0.out).lg hlt
      have hjl : j < l.length := by rw [HL.out]; exact hlt
      have HF1 := Lib.hid (HF.out j hjl HK.out)
      have HK1 : Hid ((l.getD j lg0).1 ≠ (k, m, r) → ∀ i, i < j + 1 → (l.getD i lg0).1 ≠ (k, m, r)) := fun h i hi => by
        rcases Nat.lt_or_ge i j with h1 | h1
        · exact HK.out i h1
        · obtain rfl : i = j := by omega
          exact h
      have CS := fun w => same_any (l.getD j lg0).1.1 (l.getD j lg0).1.2.1 (l.getD j lg0).1.2.2 k m r w
      rw [sameA_iff (l.getD j lg0).1 (k, m, r)] at CS
      unfold acV at CS
      have i0 : (0 : Int) ≤ (j : Int) := by omega
      have i1 : (j : Int) < (n : Int) := by omega
      generalize l.getD j lg0 = x at *
      have x1 : ∀ p : GrewTo wr, p.to.cell? ⟨b, o + j * 4, none⟩ = _ := fun p => (grew_cell p.h (p := ⟨b, o + j * 4, none⟩) hb).trans a1
      have x2 : ∀ p : GrewTo wr, p.to.cell? ⟨b, o + j * 4 + 1, none⟩ = _ := fun p => (grew_cell p.h (p := ⟨b, o + j * 4 + 1, none⟩) hb).trans a2
      have x3 : ∀ p : GrewTo wr, p.to.cell? ⟨b, o + j * 4 + 2, none⟩ = _ := fun p => (grew_cell p.h (p := ⟨b, o + j * 4 + 2, none⟩) hb).trans a3
      have x4 : ∀ p : GrewTo wr, p.to.cell? ⟨w.heap.size, 1, none⟩ = _ := fun p => (grew_cell p.h (p := ⟨w.heap.size, 1, none⟩) (Nat.lt_trans (Nat.lt_succ_self _) hQ)).trans p1
      have y1 : ∀ p : GrewTo wr, p.to.cell? ⟨w.heap.size + 1, 0, none⟩ = _ := fun p => (grew_cell p.h (p := ⟨w.heap.size + 1, 0, none⟩) hQ).trans q0
      have y2 : ∀ p : GrewTo wr, p.to.cell? ⟨w.heap.size + 1, 1, none⟩ = _ := fun p => (grew_cell p.h (p := ⟨w.heap.size + 1, 1, none⟩) hQ).trans q1
      have y3 : ∀ p : GrewTo wr, p.to.cell? ⟨w.heap.size + 1, 2, none⟩ = _ := fun p => (grew_cell p.h (p := ⟨w.heap.size + 1, 2, none⟩) hQ).trans q2
      have HB4 := Lib.hid (fun w' (g : Grew wr w') => (grew_cell g (p := ⟨b, o + j * 4 + 3, none⟩) hb).trans a4)
      have HP1 := Lib.hid (fun w' (g : Grew wr w') => (grew_cell g (p := ⟨w.heap.size, 1, none⟩) (Nat.lt_trans (Nat.lt_succ_self _) hQ)).trans p1)
      by_cases hx : x.1 = (k, m, r)
      · rw [decide_eq_true hx] at CS
        have HR := Lib.hid (HF1.out hx)
        clear hx HF1 HK1 a1 a2 a3 a4 q0 q1 q2 hQ hb
        generalize x.1.1 = z1 at *
        generalize x.1.2.1 = z2 at *
        generalize x.1.2.2 = z3 at *
        generalize x.2 = z4 at *
        go_wp2_with fail
        refine wp_region_grew (by kernel_rfl) (by kernel_rfl) ?_
        repeat (go_big_quiet_step (with_reducible exact calls_grew (CS _)))
        refine wpQuiet_nil ?_
        intro w5 hw'
        have hg5 := grew_of hw'
        have a4 := HB4.out w5 hg5
        have p2 := HP1.out w5 hg5
        have HG5 := Lib.hid hg5
        clear hw' hg5 x1 x2 x3 x4 y1 y2 y3 p1
        go_wp2
        go_ret
        exact ⟨ret_i HR.out.symm, grew_trans HG0.out HG5.out⟩
      · rw [decide_eq_false hx] at CS
        have HK2 := Lib.hid (HK1.out hx)
        clear hx HF1 HK1 a1 a2 a3 a4 q0 q1 q2 hQ hb
        generalize x.1.1 = z1 at *
        generalize x.1.2.1 = z2 at *
        generalize x.1.2.2 = z3 at *
        generalize x.2 = z4 at *
        go_wp2_with fail
        refine wp_region_grew (by kernel_rfl) (by kernel_rfl) ?_
        repeat (go_big_quiet_step (with_reducible exact calls_grew (CS _)))
        refine wpQuiet_nil ?_
        intro w5 hw'
        have HG5 := Lib.hid (grew_of hw')
        clear hw' x1 x2 x3 x4 y1 y2 y3 p1
        go_wp2
        go_roundw
        case rel => exact ⟨j + 1, by go_num, by omega, HK2.out, grew_trans HG.out HG5.out⟩
        case measure => simp only [intOf]; omega
    · obtain rfl : j = n := by omega
      have HR := Lib.hid (HNo.out (fun i hi => HK.out i (by rw [HL.out] at hi; exact hi)))
      go_wp2
      go_ret
      exact ⟨ret_i HR.out.symm, HG0.out⟩
end Go.Proofs.YtodnllopokoicaaGreat.NumK
namespace Go.Proofs.YtodnllopokoicaaGreat.NumK
open Go.RowKit

set_option maxRecDepth 100000 in
theorem ledger_yes (last : Int) (A B : Option Addr) (n c d : Nat) (l : List Lg) (w : World) (h : RowE enLg w A n l) (h2 : RowE enLg w B n l) (hn : n ≤ 1000000) :
    Calls Tryz.prog 42 #[ldV last A n c, ldV last B n d] w fun e w' => e = .returned (.bool true) ∧ Grew w w' := by
  have HI := Lib.hid h
  have HJ := Lib.hid h2
  clear h h2
  unfold ldV
  go_enter Tryz.func42, Tryz.ntmps42
  go_wp2
  go_loopw [5] (fun v wr => ∃ j : Nat, v = .int .i64 j ∧ j ≤ n ∧ Hid (Grew ((w.alloc (.cells #[.int .i64 last, .slice A n c] 35)).alloc (.cells #[.int .i64 last, .slice B n d] 35)) wr)) (fun v _ => n - (intOf v).toNat)
  case atStart => exact ⟨0, rfl, by omega, grew_refl _⟩
  case round =>
    obtain ⟨j, rfl, hj, HG⟩ := hrel
    obtain ⟨t1, t2, hg0⟩ := two_cells HG.out
    have HG0 := Lib.hid hg0
    have p1 : wr.cell? ⟨w.heap.size, 1, none⟩ = some (.slice A n c) := t1 1
    have q1 : wr.cell? ⟨w.heap.size + 1, 1, none⟩ = some (.slice B n d) := t2 1
    have hQ : w.heap.size + 1 < wr.heap.size := by have := HG.out.size; simp at this; omega
    clear t1 t2 hg0
    by_cases hlt : j < n
    · obtain ⟨b, o, rfl, hb, a1, a2, a3, a7⟩ := (HI.out.keep HG0.out).lg hlt
      obtain ⟨b2, o2, rfl, hb2, a4, a5, a6, a8⟩ := (HJ.out.keep HG0.out).lg hlt
      have i0 : (0 : Int) ≤ (j : Int) := by omega
      have i1 : (j : Int) < (n : Int) := by omega
      have CK := fun w => keepAcct_any (l.getD j lg0).1.1 (l.getD j lg0).1.2.1 (l.getD j lg0).1.2.2 (l.getD j lg0).1.1 (l.getD j lg0).1.2.1 (l.getD j lg0).1.2.2 w
      rw [sameA_iff, decide_eq_true rfl] at CK
      unfold acV at CK
      generalize l.getD j lg0 = x at *
      have x1 : ∀ p : GrewTo wr, p.to.cell? ⟨b, o + j * 4, none⟩ = _ := fun p => (grew_cell p.h (p := ⟨b, o + j * 4, none⟩) hb).trans a1
      have x2 : ∀ p : GrewTo wr, p.to.cell? ⟨b, o + j * 4 + 1, none⟩ = _ := fun p => (grew_cell p.h (p := ⟨b, o + j * 4 + 1, none⟩) hb).trans a2
      have x3 : ∀ p : GrewTo wr, p.to.cell? ⟨b, o + j * 4 + 2, none⟩ = _ := fun p => (grew_cell p.h (p := ⟨b, o + j * 4 + 2, none⟩) hb).trans a3
      have x4 : ∀ p : GrewTo wr, p.to.cell? ⟨b, o + j * 4 + 3, none⟩ = _ := fun p => (grew_cell p.h (p := ⟨b, o + j * 4 + 3, none⟩) hb).trans a7
      have y1 : ∀ p : GrewTo wr, p.to.cell? ⟨b2, o2 + j * 4, none⟩ = _ := fun p => (grew_cell p.h (p := ⟨b2, o2 + j * 4, none⟩) hb2).trans a4
      have y2 : ∀ p : GrewTo wr, p.to.cell? ⟨b2, o2 + j * 4 + 1, none⟩ = _ := fun p => (grew_cell p.h (p := ⟨b2, o2 + j * 4 + 1, none⟩) hb2).trans a5
      have y3 : ∀ p : GrewTo wr, p.to.cell? ⟨b2, o2 + j * 4 + 2, none⟩ = _ := fun p => (grew_cell p.h (p := ⟨b2, o2 + j * 4 + 2, none⟩) hb2).trans a6
      have y4 : ∀ p : GrewTo wr, p.to.cell? ⟨b2, o2 + j * 4 + 3, none⟩ = _ := fun p => (grew_cell p.h (p := ⟨b2, o2 + j * 4 + 3, none⟩) hb2).trans a8
      have z1 : ∀ p : GrewTo wr, p.to.cell? ⟨w.heap.size, 1, none⟩ = _ := fun p => (grew_cell p.h (p := ⟨w.heap.size, 1, none⟩) (Nat.lt_trans (Nat.lt_succ_self _) hQ)).trans p1
      have z2 : ∀ p : GrewTo wr, p.to.cell? ⟨w.heap.size + 1, 1, none⟩ = _ := fun p => (grew_cell p.h (p := ⟨w.heap.size + 1, 1, none⟩) hQ).trans q1
      clear a1 a2 a3 a4 a5 a6 a7 a8 hQ hb hb2
      generalize x.1.1 = k1 at *
      generalize x.1.2.1 = k2 at *
      generalize x.1.2.2 = k3 at *
      generalize x.2 = k4 at *
      go_wp2_with fail
      refine wp_region_grew (by kernel_rfl) (by kernel_rfl) ?_
      repeat (go_big_quiet_step (with_reducible exact calls_grew (CK _)))
      refine wpQuiet_nil ?_
      intro w5 hw'
      have HG5 := Lib.hid (grew_of hw')
      clear hw' x1 x2 x3 x4 y1 y2 y3 y4 z1 z2 p1 q1
      go_wp2
      go_roundw
      case rel => exact ⟨j + 1, by go_num, by omega, grew_trans HG.out HG5.out⟩
      case measure => simp only [intOf]; omega
    · obtain rfl : j = n := by omega
      go_wp2
      go_ret
      exact ⟨rfl, HG0.out⟩

theorem three_new (w : World) (c1 c2 c3 : Array Value) (t1 t2 t3 : TypeId) :
    (∀ i, (((w.alloc (.cells c1 t1)).alloc (.cells c2 t2)).alloc (.cells c3 t3)).cell? ⟨w.heap.size, i, none⟩ = c1[i]?) ∧ (∀ i, (((w.alloc (.cells c1 t1)).alloc (.cells c2 t2)).alloc (.cells c3 t3)).cell? ⟨w.heap.size + 1, i, none⟩ = c2[i]?) ∧ (∀ i, (((w.alloc (.cells c1 t1)).alloc (.cells c2 t2)).alloc (.cells c3 t3)).cell? ⟨w.heap.size + 1 + 1, i, none⟩ = c3[i]?)
    ∧ (∀ b i, b < w.heap.size + 3 → w.heap.size ≤ b → (((w.alloc (.cells c1 t1)).alloc (.cells c2 t2)).alloc (.cells c3 t3)).frozen? ⟨b, i, none⟩ = false) := by
  have s1 : (w.alloc (.cells c1 t1)).heap.size = w.heap.size + 1 := by simp
  have s2 : ((w.alloc (.cells c1 t1)).alloc (.cells c2 t2)).heap.size = w.heap.size + 1 + 1 := by simp
  refine ⟨fun i => ?_, fun i => ?_, fun i => ?_, fun b i h1 h2 => ?_⟩
  · rw [World.cell?_alloc_lt _ _ _ (by show w.heap.size < _; omega), World.cell?_alloc_lt _ _ _ (by show w.heap.size < _; omega), World.cell?_alloc_at _ _ _ _ rfl]
  · rw [World.cell?_alloc_lt _ _ _ (by show w.heap.size + 1 < _; omega), World.cell?_alloc_at _ _ _ _ s1.symm]
  · rw [World.cell?_alloc_at _ _ _ _ s2.symm]
  · have : b = w.heap.size ∨ b = w.heap.size + 1 ∨ b = w.heap.size + 1 + 1 := by omega
    rcases this with rfl | rfl | rfl
    · go_simp
    · go_simp
    · go_simp

set_option maxRecDepth 100000 in
theorem twinLedger_any (last : Int) (A : Option Addr) (n c : Nat) (l : List Lg) (w : World) (h : RowE enLg w A n l) (hA : A = none → c = 0) (hn : n ≤ 1000000) :
    Calls Tryz.prog 19 #[ldV last A n c] w fun e w' => ∃ A' c', e = .returned (ldV last A' n c') ∧ OwnE enLg w' w.heap.size 119 (.slice A' n c') l ∧ Grew w w' := by
  have HI := Lib.hid h
  have HL := Lib.hid h.len
  have HA := Lib.hid hA
  clear h hA
  obtain ⟨-, n1, n2, n3⟩ := three_new w #[.int .i64 last, .slice A n c] #[.int .i64 0, .slice none 0 0] #[.int .i64 last, .slice none 0 0] 35 35 35
  have N1 := Lib.hid n1
  have N2 := Lib.hid n2
  have N3 := Lib.hid n3
  clear n1 n2 n3
  unfold ldV
  go_enter Tryz.func19, Tryz.ntmps19
  go_wp2_with (at_builtin; refine (wpList_append_E rfl _ _ 33 119 (legV 0 0 0 0) 32 rfl Tryz.underlying33 info_bal rfl (w.heap.size + 3) _ [] rfl (OwnE.nil enLg _ _ _) A n c l rfl HA.out (HI.out.keep (grew_trans (grew_alloc _ _ _) (grew_trans (grew_alloc _ _ _) (grew_alloc _ _ _)))) (by simp; unfold maxLen; omega) (by simp; omega) (by simp) ?_); intro v' w' ho hb; have d0 := below_cell (b := w.heap.size + 1 + 1) (i := 0) (v := .int .i64 last) hb (by omega) (N2.out 0); have d1 := below_cell (b := w.heap.size + 1 + 1) (i := 1) (v := .slice none 0 0) hb (by omega) (N2.out 1); have e0 := below_cell (b := w.heap.size + 1) (i := 0) (v := .int .i64 0) hb (by omega) (N1.out 0); have e1 := below_cell (b := w.heap.size + 1) (i := 1) (v := .slice none 0 0) hb (by omega) (N1.out 1); have f1 := below_froz (b := w.heap.size + 1 + 1) (i := 1) hb (by omega) (N3.out _ _ (by omega) (by omega)); have f2 := below_froz (b := w.heap.size + 1) (i := 0) hb (by omega) (N3.out _ _ (by omega) (by omega)); have f3 := below_froz (b := w.heap.size + 1) (i := 1) hb (by omega) (N3.out _ _ (by omega) (by omega)); rw [List.nil_append] at ho; obtain ⟨A', c', rfl, -⟩ := ho.form; have HO := Lib.hid ho; have HE : Hid (Own2 w' (w.heap.size + 1) (.int .i64 0) (.slice none 0 0)) := ⟨e0, e1, f2, f3, by have := hb.size; simp at this; omega⟩; have HB : Hid (Grew w w') := Below.trans (grew_trans (grew_alloc _ _ _) (grew_trans (grew_alloc _ _ _) (grew_alloc _ _ _))) (Below.mono hb (by omega)); clear ho hb)
  have HE2 := (HE.out.other ⟨w.heap.size + 1 + 1, 1, none⟩ (.slice A' l.length c') (by show _ + 1 + 1 ≠ _ + 1; omega)).set (.int .i64 last) (.slice A' l.length c')
  have r0 := HE2.c0
  have r1 := HE2.c1
  refine bodyPost_ret (v := .agg #[.int .i64 last, .slice A' l.length c']) (by simp [results, Tryz.results19, go_sem, r0, r1]) rfl ?_
  have HO2 := ((HO.out.set (w.heap.size + 1 + 1) 1 (.slice A' l.length c') (by omega)).set (w.heap.size + 1) 0 (.int .i64 last) (by omega)).set (w.heap.size + 1) 1 (.slice A' l.length c') (by omega)
  rw [HL.out] at HO2 ⊢
  exact ⟨A', c', rfl, HO2.mono (by omega), grew_set (grew_set (grew_set HB.out _ (by show _ ≤ w.heap.size + 1 + 1; omega)) _ (by show _ ≤ w.heap.size + 1; omega)) _ (by show _ ≤ w.heap.size + 1; omega)⟩

end Go.Proofs.YtodnllopokoicaaGreat.NumK
namespace Go.Proofs.YtodnllopokoicaaGreat.NumK
open Go.RowKit
set_option linter.unusedVariables false

set_option maxRecDepth 100000 in
set_option maxHeartbeats 4000000 in
theorem keepTrades_yes (A B : Option Addr) (n c d : Nat) (l : List Tr) (w : World) (h : RowE enTr w A n l) (h2 : RowE enTr w B n l) (hn : n ≤ 1000000) :
    Calls Tryz.prog 104 #[.slice A n c, .slice B n d] w fun e w' => e = .returned (.bool true) ∧ Grew w w' := by
  have HI := Lib.hid h
  have HJ := Lib.hid h2
  clear h h2
  go_enter Tryz.func104, Tryz.ntmps104
  go_wp2
  go_loopw [5] (fun v wr => ∃ j : Nat, v = .int .i64 j ∧ j ≤ n ∧ Hid (Grew w wr)) (fun v _ => n - (intOf v).toNat)
  case atStart => exact ⟨0, rfl, by omega, grew_refl _⟩
  case round =>
    obtain ⟨j, rfl, hj, HG⟩ := hrel
    by_cases hlt : j < n
    · obtain ⟨b, o, rfl, hb, hc⟩ := (HI.out.keep HG.out).tr hlt
      obtain ⟨b2, o2, rfl, hb2, hc2⟩ := (HJ.out.keep HG.out).tr hlt
      have HC1 : Hid (∀ w', Grew wr w' → CTr w' b (o + j * 7) (l.getD j tr0)) := fun w' g => (hc j hlt).keep g hb
      have HC2 : Hid (∀ w', Grew wr w' → CTr w' b2 (o2 + j * 7) (l.getD j tr0)) := fun w' g => (hc2 j hlt).keep g hb2
      clear hc hc2 hb hb2
      have i0 : (0 : Int) ≤ (j : Int) := by omega
      have i1 : (j : Int) < (n : Int) := by omega
      generalize l.getD j tr0 = x at *
      obtain ⟨⟨q1, q2, q3, q4, q5, q6⟩, q7⟩ := x
      go_upto_region 6 with fail
      -- REGION6
      refine wp_region_noPanic ?_
      refine wp_region_held_drew (S := fun w' => Grew wr w') (by kernel_rfl) (grew_drew (grew_refl _)) (fun hHeld => ?_)
      (refine wpAnyH_take (i := 0) (oi := { dst := some 19, op := Op.move (Operand.tmp 0), type := 29, pos := "keep.go:167", after := #[], guard := none }) (v := ?_) rfl (by kernel_rfl) (by kernel_rfl) (by kernel_rfl) (fun _ _ _ h => h) (Or.inl ⟨by rfl, ?_⟩) (by assumption) ?_; rotate_left; · (intro w hSw; (try dsimp only at hSw); skip; go_simp; (first | done | with_reducible rfl)))
      try simp only [Act.put, List.setIfInBounds_toArray, List.set_cons_zero, List.set_cons_succ]
      (refine wpAnyH_take (i := 1) (oi := { dst := some 20, op := Op.move (Operand.tmp 5), type := 3, pos := "keep.go:167", after := #[], guard := none }) (v := ?_) rfl (by kernel_rfl) (by kernel_rfl) (by kernel_rfl) (fun _ _ _ h => h) (Or.inl ⟨by rfl, ?_⟩) (by assumption) ?_; rotate_left; · (intro w hSw; (try dsimp only at hSw); skip; go_simp; (first | done | with_reducible rfl)))
      try simp only [Act.put, List.setIfInBounds_toArray, List.set_cons_zero, List.set_cons_succ]
      (refine wpAnyH_take (i := 2) (oi := { dst := some 21, op := Op.indexAddr 29 (Operand.tmp 19) (Operand.tmp 20), type := 0, pos := "keep.go:167", after := #[{ on := 0, ground := Ground.data }, { on := 1, ground := Ground.data }], guard := none }) (v := ?_) rfl (by kernel_rfl) (by kernel_rfl) (by kernel_rfl) (fun _ _ _ h => h) (Or.inl ⟨by rfl, ?_⟩) (by assumption) ?_; rotate_left; · (intro w hSw; (try dsimp only at hSw); skip; go_simp; (first | done | with_reducible rfl)))
      try simp only [Act.put, List.setIfInBounds_toArray, List.set_cons_zero, List.set_cons_succ]
      (refine wpAnyH_take (i := 3) (oi := { dst := some 22, op := Op.load 158 (Operand.tmp 21), type := 158, pos := "keep.go:167", after := #[{ on := 2, ground := Ground.data }], guard := none }) (v := ?_) rfl (by kernel_rfl) (by kernel_rfl) (by kernel_rfl) (fun _ _ _ h => h) (Or.inl ⟨by rfl, ?_⟩) (by assumption) ?_; rotate_left; · (intro w hSw; (try dsimp only at hSw); obtain ⟨a0, a1, a2, a3, a4, a5, a6⟩ := HC1.out _ hSw; dsimp only at a0 a1 a2 a3 a4 a5 a6; go_simp; (first | done | with_reducible rfl)))
      try simp only [Act.put, List.setIfInBounds_toArray, List.set_cons_zero, List.set_cons_succ]
      (refine wpAnyH_take (i := 4) (oi := { dst := some 23, op := Op.move (Operand.tmp 1), type := 29, pos := "keep.go:167", after := #[{ on := 10, ground := Ground.gcOnly Departure.lateStores }], guard := none }) (v := ?_) rfl (by kernel_rfl) (by kernel_rfl) (by kernel_rfl) (fun _ _ _ h => h) (Or.inl ⟨by rfl, ?_⟩) (by assumption) ?_; rotate_left; · (intro w hSw; (try dsimp only at hSw); skip; go_simp; (first | done | with_reducible rfl)))
      try simp only [Act.put, List.setIfInBounds_toArray, List.set_cons_zero, List.set_cons_succ]
      (refine wpAnyH_take (i := 5) (oi := { dst := some 24, op := Op.move (Operand.tmp 5), type := 3, pos := "keep.go:167", after := #[{ on := 10, ground := Ground.gcOnly Departure.lateStores }], guard := none }) (v := ?_) rfl (by kernel_rfl) (by kernel_rfl) (by kernel_rfl) (fun _ _ _ h => h) (Or.inl ⟨by rfl, ?_⟩) (by assumption) ?_; rotate_left; · (intro w hSw; (try dsimp only at hSw); skip; go_simp; (first | done | with_reducible rfl)))
      try simp only [Act.put, List.setIfInBounds_toArray, List.set_cons_zero, List.set_cons_succ]
      (refine wpAnyH_take (i := 6) (oi := { dst := some 25, op := Op.indexAddr 29 (Operand.tmp 23) (Operand.tmp 24), type := 0, pos := "keep.go:167", after := #[{ on := 4, ground := Ground.data }, { on := 5, ground := Ground.data }, { on := 10, ground := Ground.gcOnly Departure.lateStores }], guard := none }) (v := ?_) rfl (by kernel_rfl) (by kernel_rfl) (by kernel_rfl) (fun _ _ _ h => h) (Or.inl ⟨by rfl, ?_⟩) (by assumption) ?_; rotate_left; · (intro w hSw; (try dsimp only at hSw); skip; go_simp; (first | done | with_reducible rfl)))
      try simp only [Act.put, List.setIfInBounds_toArray, List.set_cons_zero, List.set_cons_succ]
      (refine wpAnyH_take (i := 7) (oi := { dst := some 26, op := Op.load 158 (Operand.tmp 25), type := 158, pos := "keep.go:167", after := #[{ on := 6, ground := Ground.data }, { on := 10, ground := Ground.gcOnly Departure.lateStores }], guard := none }) (v := ?_) rfl (by kernel_rfl) (by kernel_rfl) (by kernel_rfl) (fun _ _ _ h => h) (Or.inl ⟨by rfl, ?_⟩) (by assumption) ?_; rotate_left; · (intro w hSw; (try dsimp only at hSw); obtain ⟨a0, a1, a2, a3, a4, a5, a6⟩ := HC2.out _ hSw; dsimp only at a0 a1 a2 a3 a4 a5 a6; go_simp; (first | done | with_reducible rfl)))
      try simp only [Act.put, List.setIfInBounds_toArray, List.set_cons_zero, List.set_cons_succ]
      refine wpAnyH_ready (rs := [8, 9]) (by kernel_rfl) (by simp) ?_
      refine (AllReadyH.cons (o := { dst := some 6, op := Op.alloc 158, type := 0, pos := "keep.go:167", after := #[], guard := none }) rfl (fun K hK => ?_) (AllReadyH.cons (o := { dst := some 7, op := Op.alloc 158, type := 0, pos := "keep.go:167", after := #[], guard := none }) rfl (fun K hK => ?_) AllReadyH.nil))
      · go_simp
        refine hK.out _ _ ?_ (fun hHeld => ?_)
        · first
          | exact (by repeat (first | exact grew_refl _ | refine grew_drew ?_ | refine grew_trans ?_ (grew_alloc _ _ _)))
        clear hK K
        try simp only [Act.put, List.setIfInBounds_toArray, List.set_cons_zero, List.set_cons_succ]
        refine wpAnyH_ready (rs := [9]) (by kernel_rfl) (by simp) ?_
        refine (AllReadyH.cons (o := { dst := some 7, op := Op.alloc 158, type := 0, pos := "keep.go:167", after := #[], guard := none }) rfl (fun K hK => ?_) AllReadyH.nil)
        go_simp
        refine hK.out _ _ ?_ (fun hHeld => ?_)
        · first
          | exact (by repeat (first | exact grew_refl _ | refine grew_drew ?_ | refine grew_trans ?_ (grew_alloc _ _ _)))
        clear hK K
        try simp only [Act.put, List.setIfInBounds_toArray, List.set_cons_zero, List.set_cons_succ]
        refine wpAnyH_ready (rs := [10]) (by kernel_rfl) (by simp) ?_
        refine (AllReadyH.cons (o := { dst := none, op := Op.store 158 (Operand.tmp 6) (Operand.tmp 22), type := 0, pos := "keep.go:167", after := #[{ on := 8, ground := Ground.data }, { on := 3, ground := Ground.data }, { on := 0, ground := Ground.phase }, { on := 1, ground := Ground.phase }, { on := 2, ground := Ground.phase }, { on := 3, ground := Ground.phase }, { on := 4, ground := Ground.textOnly Departure.lateStores }, { on := 5, ground := Ground.textOnly Departure.lateStores }, { on := 6, ground := Ground.textOnly Departure.lateStores }, { on := 7, ground := Ground.textOnly Departure.lateStores }, { on := 8, ground := Ground.phase }, { on := 9, ground := Ground.phase }], guard := none }) rfl (fun K hK => ?_) AllReadyH.nil)
        go_simp
        refine hK.out _ _ ?_ (fun hHeld => ?_)
        · first
          | exact (by repeat (first | exact grew_refl _ | refine grew_drew ?_ | refine grew_trans ?_ (grew_alloc _ _ _)))
        clear hK K
        try simp only [Act.put, List.setIfInBounds_toArray, List.set_cons_zero, List.set_cons_succ]
        refine wpAnyH_ready (rs := [11]) (by kernel_rfl) (by simp) ?_
        refine (AllReadyH.cons (o := { dst := none, op := Op.store 158 (Operand.tmp 7) (Operand.tmp 26), type := 0, pos := "keep.go:167", after := #[{ on := 9, ground := Ground.data }, { on := 7, ground := Ground.data }, { on := 10, ground := Ground.chain }, { on := 0, ground := Ground.phase }, { on := 1, ground := Ground.phase }, { on := 2, ground := Ground.phase }, { on := 3, ground := Ground.phase }, { on := 4, ground := Ground.phase }, { on := 5, ground := Ground.phase }, { on := 6, ground := Ground.phase }, { on := 7, ground := Ground.phase }, { on := 8, ground := Ground.phase }, { on := 9, ground := Ground.phase }, { on := 10, ground := Ground.phase }], guard := none }) rfl (fun K hK => ?_) AllReadyH.nil)
        go_simp
        refine hK.out _ _ ?_ (fun hHeld => ?_)
        · first
          | exact (by repeat (first | exact grew_refl _ | refine grew_drew ?_ | refine grew_trans ?_ (grew_alloc _ _ _)))
        clear hK K
        try simp only [Act.put, List.setIfInBounds_toArray, List.set_cons_zero, List.set_cons_succ]
        refine wpAnyH_done (by kernel_rfl) ?_ _
        clear hHeld
        have HA : Hid (OwnC (((wr.alloc (.cells #[.int .i64 q1, .int .i64 q2, .int .i64 q3, .int .i64 q4, .int .i64 q5, .int .i64 q6, .bool q7] 158)).alloc (.cells #[.int .i64 q1, .int .i64 q2, .int .i64 q3, .int .i64 q4, .int .i64 q5, .int .i64 q6, .bool q7] 158)).drew) wr.heap.size [.int .i64 q1, .int .i64 q2, .int .i64 q3, .int .i64 q4, .int .i64 q5, .int .i64 q6, .bool q7]) := (((OwnC.new wr [.int .i64 q1, .int .i64 q2, .int .i64 q3, .int .i64 q4, .int .i64 q5, .int .i64 q6, .bool q7] _ _ rfl).keep (grew_alloc _ _ _)).drew)
        have HB : Hid (OwnC (((wr.alloc (.cells #[.int .i64 q1, .int .i64 q2, .int .i64 q3, .int .i64 q4, .int .i64 q5, .int .i64 q6, .bool q7] 158)).alloc (.cells #[.int .i64 q1, .int .i64 q2, .int .i64 q3, .int .i64 q4, .int .i64 q5, .int .i64 q6, .bool q7] 158)).drew) (wr.heap.size + 1) [.int .i64 q1, .int .i64 q2, .int .i64 q3, .int .i64 q4, .int .i64 q5, .int .i64 q6, .bool q7]) := ((OwnC.new (wr.alloc (.cells #[.int .i64 q1, .int .i64 q2, .int .i64 q3, .int .i64 q4, .int .i64 q5, .int .i64 q6, .bool q7] 158)) [.int .i64 q1, .int .i64 q2, .int .i64 q3, .int .i64 q4, .int .i64 q5, .int .i64 q6, .bool q7] _ _ (by simp)).drew)
        have HGW : Hid (Grew w (((wr.alloc (.cells #[.int .i64 q1, .int .i64 q2, .int .i64 q3, .int .i64 q4, .int .i64 q5, .int .i64 q6, .bool q7] 158)).alloc (.cells #[.int .i64 q1, .int .i64 q2, .int .i64 q3, .int .i64 q4, .int .i64 q5, .int .i64 q6, .bool q7] 158)).drew)) := grew_trans HG.out (grew_drew (grew_trans (grew_alloc _ _ _) (grew_alloc _ _ _)))
        generalize ((wr.alloc (.cells #[.int .i64 q1, .int .i64 q2, .int .i64 q3, .int .i64 q4, .int .i64 q5, .int .i64 q6, .bool q7] 158)).alloc (.cells #[.int .i64 q1, .int .i64 q2, .int .i64 q3, .int .i64 q4, .int .i64 q5, .int .i64 q6, .bool q7] 158)).drew = wW at *
        generalize wr.heap.size = N at *
        clear HC1 HC2
        have u0 : wW.cell? ⟨N, 0, none⟩ = some (.int .i64 q1) := HA.out.at 0 _ rfl
        have u1 : wW.cell? ⟨N, 1, none⟩ = some (.int .i64 q2) := HA.out.at 1 _ rfl
        have u2 : wW.cell? ⟨N, 2, none⟩ = some (.int .i64 q3) := HA.out.at 2 _ rfl
        have u3 : wW.cell? ⟨N, 3, none⟩ = some (.int .i64 q4) := HA.out.at 3 _ rfl
        have u4 : wW.cell? ⟨N, 4, none⟩ = some (.int .i64 q5) := HA.out.at 4 _ rfl
        have u5 : wW.cell? ⟨N, 5, none⟩ = some (.int .i64 q6) := HA.out.at 5 _ rfl
        have u6 : wW.cell? ⟨N, 6, none⟩ = some (.bool q7) := HA.out.at 6 _ rfl
        have v0 : wW.cell? ⟨N + 1, 0, none⟩ = some (.int .i64 q1) := HB.out.at 0 _ rfl
        have v1 : wW.cell? ⟨N + 1, 1, none⟩ = some (.int .i64 q2) := HB.out.at 1 _ rfl
        have v2 : wW.cell? ⟨N + 1, 2, none⟩ = some (.int .i64 q3) := HB.out.at 2 _ rfl
        have v3 : wW.cell? ⟨N + 1, 3, none⟩ = some (.int .i64 q4) := HB.out.at 3 _ rfl
        have v4 : wW.cell? ⟨N + 1, 4, none⟩ = some (.int .i64 q5) := HB.out.at 4 _ rfl
        have v5 : wW.cell? ⟨N + 1, 5, none⟩ = some (.int .i64 q6) := HB.out.at 5 _ rfl
        have v6 : wW.cell? ⟨N + 1, 6, none⟩ = some (.bool q7) := HB.out.at 6 _ rfl
        apply_assumption
        go_wp2
        go_roundw
        case rel => exact ⟨j + 1, by go_num, by omega, HGW.out⟩
        case measure => simp only [intOf]; omega
      · go_simp
        refine hK.out _ _ ?_ (fun hHeld => ?_)
        · first
          | exact (by repeat (first | exact grew_refl _ | refine grew_drew ?_ | refine grew_trans ?_ (grew_alloc _ _ _)))
        clear hK K
        try simp only [Act.put, List.setIfInBounds_toArray, List.set_cons_zero, List.set_cons_succ]
        refine wpAnyH_ready (rs := [8]) (by kernel_rfl) (by simp) ?_
        refine (AllReadyH.cons (o := { dst := some 6, op := Op.alloc 158, type := 0, pos := "keep.go:167", after := #[], guard := none }) rfl (fun K hK => ?_) AllReadyH.nil)
        go_simp
        refine hK.out _ _ ?_ (fun hHeld => ?_)
        · first
          | exact (by repeat (first | exact grew_refl _ | refine grew_drew ?_ | refine grew_trans ?_ (grew_alloc _ _ _)))
        clear hK K
        try simp only [Act.put, List.setIfInBounds_toArray, List.set_cons_zero, List.set_cons_succ]
        refine wpAnyH_ready (rs := [10]) (by kernel_rfl) (by simp) ?_
        refine (AllReadyH.cons (o := { dst := none, op := Op.store 158 (Operand.tmp 6) (Operand.tmp 22), type := 0, pos := "keep.go:167", after := #[{ on := 8, ground := Ground.data }, { on := 3, ground := Ground.data }, { on := 0, ground := Ground.phase }, { on := 1, ground := Ground.phase }, { on := 2, ground := Ground.phase }, { on := 3, ground := Ground.phase }, { on := 4, ground := Ground.textOnly Departure.lateStores }, { on := 5, ground := Ground.textOnly Departure.lateStores }, { on := 6, ground := Ground.textOnly Departure.lateStores }, { on := 7, ground := Ground.textOnly Departure.lateStores }, { on := 8, ground := Ground.phase }, { on := 9, ground := Ground.phase }], guard := none }) rfl (fun K hK => ?_) AllReadyH.nil)
        go_simp
        refine hK.out _ _ ?_ (fun hHeld => ?_)
        · first
          | exact (by repeat (first | exact grew_refl _ | refine grew_drew ?_ | refine grew_trans ?_ (grew_alloc _ _ _)))
        clear hK K
        try simp only [Act.put, List.setIfInBounds_toArray, List.set_cons_zero, List.set_cons_succ]
        refine wpAnyH_ready (rs := [11]) (by kernel_rfl) (by simp) ?_
        refine (AllReadyH.cons (o := { dst := none, op := Op.store 158 (Operand.tmp 7) (Operand.tmp 26), type := 0, pos := "keep.go:167", after := #[{ on := 9, ground := Ground.data }, { on := 7, ground := Ground.data }, { on := 10, ground := Ground.chain }, { on := 0, ground := Ground.phase }, { on := 1, ground := Ground.phase }, { on := 2, ground := Ground.phase }, { on := 3, ground := Ground.phase }, { on := 4, ground := Ground.phase }, { on := 5, ground := Ground.phase }, { on := 6, ground := Ground.phase }, { on := 7, ground := Ground.phase }, { on := 8, ground := Ground.phase }, { on := 9, ground := Ground.phase }, { on := 10, ground := Ground.phase }], guard := none }) rfl (fun K hK => ?_) AllReadyH.nil)
        go_simp
        refine hK.out _ _ ?_ (fun hHeld => ?_)
        · first
          | exact (by repeat (first | exact grew_refl _ | refine grew_drew ?_ | refine grew_trans ?_ (grew_alloc _ _ _)))
        clear hK K
        try simp only [Act.put, List.setIfInBounds_toArray, List.set_cons_zero, List.set_cons_succ]
        refine wpAnyH_done (by kernel_rfl) ?_ _
        clear hHeld
        have HA : Hid (OwnC (((wr.alloc (.cells #[.int .i64 q1, .int .i64 q2, .int .i64 q3, .int .i64 q4, .int .i64 q5, .int .i64 q6, .bool q7] 158)).alloc (.cells #[.int .i64 q1, .int .i64 q2, .int .i64 q3, .int .i64 q4, .int .i64 q5, .int .i64 q6, .bool q7] 158)).drew) wr.heap.size [.int .i64 q1, .int .i64 q2, .int .i64 q3, .int .i64 q4, .int .i64 q5, .int .i64 q6, .bool q7]) := (((OwnC.new wr [.int .i64 q1, .int .i64 q2, .int .i64 q3, .int .i64 q4, .int .i64 q5, .int .i64 q6, .bool q7] _ _ rfl).keep (grew_alloc _ _ _)).drew)
        have HB : Hid (OwnC (((wr.alloc (.cells #[.int .i64 q1, .int .i64 q2, .int .i64 q3, .int .i64 q4, .int .i64 q5, .int .i64 q6, .bool q7] 158)).alloc (.cells #[.int .i64 q1, .int .i64 q2, .int .i64 q3, .int .i64 q4, .int .i64 q5, .int .i64 q6, .bool q7] 158)).drew) (wr.heap.size + 1) [.int .i64 q1, .int .i64 q2, .int .i64 q3, .int .i64 q4, .int .i64 q5, .int .i64 q6, .bool q7]) := ((OwnC.new (wr.alloc (.cells #[.int .i64 q1, .int .i64 q2, .int .i64 q3, .int .i64 q4, .int .i64 q5, .int .i64 q6, .bool q7] 158)) [.int .i64 q1, .int .i64 q2, .int .i64 q3, .int .i64 q4, .int .i64 q5, .int .i64 q6, .bool q7] _ _ (by simp)).drew)
        have HGW : Hid (Grew w (((wr.alloc (.cells #[.int .i64 q1, .int .i64 q2, .int .i64 q3, .int .i64 q4, .int .i64 q5, .int .i64 q6, .bool q7] 158)).alloc (.cells #[.int .i64 q1, .int .i64 q2, .int .i64 q3, .int .i64 q4, .int .i64 q5, .int .i64 q6, .bool q7] 158)).drew)) := grew_trans HG.out (grew_drew (grew_trans (grew_alloc _ _ _) (grew_alloc _ _ _)))
        generalize ((wr.alloc (.cells #[.int .i64 q1, .int .i64 q2, .int .i64 q3, .int .i64 q4, .int .i64 q5, .int .i64 q6, .bool q7] 158)).alloc (.cells #[.int .i64 q1, .int .i64 q2, .int .i64 q3, .int .i64 q4, .int .i64 q5, .int .i64 q6, .bool q7] 158)).drew = wW at *
        generalize wr.heap.size = N at *
        clear HC1 HC2
        have u0 : wW.cell? ⟨N, 0, none⟩ = some (.int .i64 q1) := HA.out.at 0 _ rfl
        have u1 : wW.cell? ⟨N, 1, none⟩ = some (.int .i64 q2) := HA.out.at 1 _ rfl
        have u2 : wW.cell? ⟨N, 2, none⟩ = some (.int .i64 q3) := HA.out.at 2 _ rfl
        have u3 : wW.cell? ⟨N, 3, none⟩ = some (.int .i64 q4) := HA.out.at 3 _ rfl
        have u4 : wW.cell? ⟨N, 4, none⟩ = some (.int .i64 q5) := HA.out.at 4 _ rfl
        have u5 : wW.cell? ⟨N, 5, none⟩ = some (.int .i64 q6) := HA.out.at 5 _ rfl
        have u6 : wW.cell? ⟨N, 6, none⟩ = some (.bool q7) := HA.out.at 6 _ rfl
        have v0 : wW.cell? ⟨N + 1, 0, none⟩ = some (.int .i64 q1) := HB.out.at 0 _ rfl
        have v1 : wW.cell? ⟨N + 1, 1, none⟩ = some (.int .i64 q2) := HB.out.at 1 _ rfl
        have v2 : wW.cell? ⟨N + 1, 2, none⟩ = some (.int .i64 q3) := HB.out.at 2 _ rfl
        have v3 : wW.cell? ⟨N + 1, 3, none⟩ = some (.int .i64 q4) := HB.out.at 3 _ rfl
        have v4 : wW.cell? ⟨N + 1, 4, none⟩ = some (.int .i64 q5) := HB.out.at 4 _ rfl
        have v5 : wW.cell? ⟨N + 1, 5, none⟩ = some (.int .i64 q6) := HB.out.at 5 _ rfl
        have v6 : wW.cell? ⟨N + 1, 6, none⟩ = some (.bool q7) := HB.out.at 6 _ rfl
        apply_assumption
        go_wp2
        go_roundw
        case rel => exact ⟨j + 1, by go_num, by omega, HGW.out⟩
        case measure => simp only [intOf]; omega
      -- END6
    · obtain rfl : j = n := by omega
      go_wp2
      go_ret
      exact ⟨rfl, HG.out⟩
end Go.Proofs.YtodnllopokoicaaGreat.NumK
