/- Ledgers in memory: what an account has; the program's and the reference's. -/
import Derived.Test.YtafglljfgoeapaaRK
import Derived.Test.YtafglljfgoeapaaRJ
import Derived.Laws.StructEq
namespace Go.Proofs.Ytafglljfgoeapaa.NumK
open Go.RowKit

def ldV (last : Int) (A : Option Addr) (n c : Nat) : Value := .agg #[.int .i64 last, .slice A n c]
theorem info_bal : (Try.prog.info? 64).map (fun i => (i.zero, i.size, i.bytes)) = some (some (legV 0 0 0 0), 4, 32) := by kernel_rfl

theorem run_equalAc (w : World) (a b c d e f : Int) (E : Bool) (h : E = sameA a b c d e f) :
    (Op.equalIn 10000 27 (.agg #[.int .i64 a, .int .i64 b, .int .i64 c]) (.agg #[.int .i64 d, .int .i64 e, .int .i64 f])).run Try.prog w = .ok E w := by
  subst h
  rw [run_equalIn_struct w 9999 _ _ _ (by kernel_rfl) (by kernel_rfl)]
  go_simp
  unfold sameA
  repeat' split
  all_goals simp_all

set_option maxRecDepth 100000 in
theorem lof_any (last : Int) (A : Option Addr) (n c : Nat) (l : List Lg) (k m r : Int) (w : World) (h : RowE enLg w A n l) (hn : n ≤ 1000000) :
    Calls Try.prog 13 #[ldV last A n c, acV k m r] w fun e w' => e = .returned (.int .i64 (ofL l (k, m, r))) ∧ Grew w w' := by
  have HI := Lib.hid h
  have HL := Lib.hid h.len
  have HF := Lib.hid (ofL_found l (k, m, r))
  have HNo := Lib.hid (ofL_none l (k, m, r))
  generalize ofL l (k, m, r) = R at *
  clear h
  unfold ldV acV
  go_enter Try.func13, Try.ntmps13
  go_wp2
  go_loopw [10] (fun v wr => ∃ j : Nat, v = .int .i64 j ∧ j ≤ n ∧ Hid (∀ i, i < j → (l.getD i lg0).1 ≠ (k, m, r)) ∧ Hid (Grew ((w.alloc (.cells #[.int .i64 last, .slice A n c] 24)).alloc (.cells #[.int .i64 k, .int .i64 m, .int .i64 r] 27)) wr)) (fun v _ => n - (intOf v).toNat)
  case atStart => exact ⟨0, rfl, by omega, (by intro i hi; omega), grew_refl _⟩
  case round =>
    obtain ⟨j, rfl, hj, HK, HG⟩ := hrel
    obtain ⟨t1, t2, hg0⟩ := two_cells HG.out
    have HG0 := Lib.hid hg0
    have q0 : wr.cell? ⟨w.heap.size + 1, 0, none⟩ = some (.int .i64 k) := t2 0
    have q1 : wr.cell? ⟨w.heap.size + 1, 1, none⟩ = some (.int .i64 m) := t2 1
    have q2 : wr.cell? ⟨w.heap.size + 1, 2, none⟩ = some (.int .i64 r) := t2 2
    have hQ : w.heap.size + 1 < wr.heap.size := by have := HG.out.size; simp at this; omega
    clear t1 t2 hg0
    by_cases hlt : j < n
    · obtain ⟨b, o, rfl, hb, a1, a2, a3, a4⟩ := (HI.out.keep HG0.out).lg hlt
      have hjl : j < l.length := by rw [HL.out]; exact hlt
      have HF1 := Lib.hid (HF.out j hjl HK.out)
      have HK1 : Hid ((l.getD j lg0).1 ≠ (k, m, r) → ∀ i, i < j + 1 → (l.getD i lg0).1 ≠ (k, m, r)) := fun h i hi => by
        rcases Nat.lt_or_ge i j with h1 | h1
        · exact HK.out i h1
        · obtain rfl : i = j := by omega
          exact h
      have hE := fun w => run_equalAc w (l.getD j lg0).1.1 (l.getD j lg0).1.2.1 (l.getD j lg0).1.2.2 k m r _ rfl
      rw [sameA_iff (l.getD j lg0).1 (k, m, r)] at hE
      have i0 : (0 : Int) ≤ (j : Int) := by omega
      have i1 : (j : Int) < (n : Int) := by omega
      clear hb
      generalize l.getD j lg0 = x at *
      by_cases hx : x.1 = (k, m, r)
      · rw [decide_eq_true hx] at hE
        have HR := Lib.hid (HF1.out hx)
        clear hx HF1 HK1
        go_wp2
        go_ret
        exact ⟨ret_i HR.out.symm, grew_trans HG0.out (grew_alloc _ _ _)⟩
      · rw [decide_eq_false hx] at hE
        have HK2 := Lib.hid (HK1.out hx)
        clear hx HF1 HK1
        go_wp2
        go_roundw
        case rel => exact ⟨j + 1, by go_num, by omega, HK2.out, grew_trans HG.out (grew_alloc _ _ _)⟩
        case measure => simp only [intOf]; omega
    · obtain rfl : j = n := by omega
      have HR := Lib.hid (HNo.out (fun i hi => HK.out i (by rw [HL.out] at hi; exact hi)))
      go_wp2
      go_ret
      exact ⟨ret_i HR.out.symm, HG0.out⟩

set_option maxRecDepth 100000 in
theorem rof_any (last : Int) (A : Option Addr) (n c : Nat) (l : List Lg) (k m r : Int) (w : World) (h : RowE enLg w A n l) (hn : n ≤ 1000000) :
    Calls Try.prog 14 #[ldV last A n c, acV k m r] w fun e w' => e = .returned (.int .i64 (ofL l (k, m, r))) ∧ Grew w w' := by
  have HI := Lib.hid h
  have HL := Lib.hid h.len
  have HF := Lib.hid (ofL_found l (k, m, r))
  have HNo := Lib.hid (ofL_none l (k, m, r))
  generalize ofL l (k, m, r) = R at *
  clear h
  unfold ldV acV
  go_enter Try.func14, Try.ntmps14
  go_wp2
  go_loopw [5] (fun v wr => ∃ j : Nat, v = .int .i64 j ∧ j ≤ n ∧ Hid (∀ i, i < j → (l.getD i lg0).1 ≠ (k, m, r)) ∧ Hid (Grew ((w.alloc (.cells #[.int .i64 last, .slice A n c] 24)).alloc (.cells #[.int .i64 k, .int .i64 m, .int .i64 r] 27)) wr)) (fun v _ => n - (intOf v).toNat)
  case atStart => exact ⟨0, rfl, by omega, (by intro i hi; omega), grew_refl _⟩
  case round =>
    obtain ⟨j, rfl, hj, HK, HG⟩ := hrel
    obtain ⟨t1, t2, hg0⟩ := two_cells HG.out
    have HG0 := Lib.hid hg0
    have p1 : wr.cell? ⟨w.heap.size, 1, none⟩ = some (.slice A n c) := t1 1
    have q0 : wr.cell? ⟨w.heap.size + 1, 0, none⟩ = some (.int .i64 k) := t2 0
    have q1 : wr.cell? ⟨w.heap.size + 1, 1, none⟩ = some (.int .i64 m) := t2 1
    have q2 : wr.cell? ⟨w.heap.size + 1, 2, none⟩ = some (.int .i64 r) := t2 2
    have hQ : w.heap.size + 1 < wr.heap.size := by have := HG.out.size; simp at this; omega
    clear t1 t2 hg0
    by_cases hlt : j < n
    · obtain ⟨b, o, rfl, hb, a1, a2, a3, a4⟩ := (HI.out.keep HG0.out).lg hlt
      have hjl : j < l.length := by rw [HL.out]; exact hlt
      have HF1 := Lib.hid (HF.out j hjl HK.out)
      have HK1 : Hid ((l.getD j lg0).1 ≠ (k, m, r) → ∀ i, i < j + 1 → (l.getD i lg0).1 ≠ (k, m, r)) := fun h i hi => by
        rcases Nat.lt_or_ge i j with h1 | h1
        · exact HK.out i h1
        · obtain rfl : i = j := by omega
          exact h
      have CS := fun w => same_any (l.getD j lg0).1.1 (l.getD j lg0).1.2.1 (l.getD j lg0).1.2.2 k m r w
      rw [sameA_iff (l.getD j lg0).1 (k, m, r)] at CS
      unfold acV at CS
      have i0 : (0 : Int) ≤ (j : Int) := by omega
      have i1 : (j : Int) < (n : Int) := by omega
      generalize l.getD j lg0 = x at *
      have x1 : ∀ p : GrewTo wr, p.to.cell? ⟨b, o + j * 4, none⟩ = _ := fun p => (grew_cell p.h (p := ⟨b, o + j * 4, none⟩) hb).trans a1
      have x2 : ∀ p : GrewTo wr, p.to.cell? ⟨b, o + j * 4 + 1, none⟩ = _ := fun p => (grew_cell p.h (p := ⟨b, o + j * 4 + 1, none⟩) hb).trans a2
      have x3 : ∀ p : GrewTo wr, p.to.cell? ⟨b, o + j * 4 + 2, none⟩ = _ := fun p => (grew_cell p.h (p := ⟨b, o + j * 4 + 2, none⟩) hb).trans a3
      have x4 : ∀ p : GrewTo wr, p.to.cell? ⟨w.heap.size, 1, none⟩ = _ := fun p => (grew_cell p.h (p := ⟨w.heap.size, 1, none⟩) (Nat.lt_trans (Nat.lt_succ_self _) hQ)).trans p1
      have y1 : ∀ p : GrewTo wr, p.to.cell? ⟨w.heap.size + 1, 0, none⟩ = _ := fun p => (grew_cell p.h (p := ⟨w.heap.size + 1, 0, none⟩) hQ).trans q0
      have y2 : ∀ p : GrewTo wr, p.to.cell? ⟨w.heap.size + 1, 1, none⟩ = _ := fun p => (grew_cell p.h (p := ⟨w.heap.size + 1, 1, none⟩) hQ).trans q1
      have y3 : ∀ p : GrewTo wr, p.to.cell? ⟨w.heap.size + 1, 2, none⟩ = _ := fun p => (grew_cell p.h (p := ⟨w.heap.size + 1, 2, none⟩) hQ).trans q2
      have HB4 := Lib.hid (fun w' (g : Grew wr w') => (grew_cell g (p := ⟨b, o + j * 4 + 3, none⟩) hb).trans a4)
      have HP1 := Lib.hid (fun w' (g : Grew wr w') => (grew_cell g (p := ⟨w.heap.size, 1, none⟩) (Nat.lt_trans (Nat.lt_succ_self _) hQ)).trans p1)
      by_cases hx : x.1 = (k, m, r)
      · rw [decide_eq_true hx] at CS
        have HR := Lib.hid (HF1.out hx)
        clear hx HF1 HK1 a1 a2 a3 a4 q0 q1 q2 hQ hb
        generalize x.1.1 = z1 at *
        generalize x.1.2.1 = z2 at *
        generalize x.1.2.2 = z3 at *
        generalize x.2 = z4 at *
        go_wp2_with fail
        refine wp_region_grew (by kernel_rfl) (by kernel_rfl) ?_
        repeat (go_big_quiet_step (with_reducible exact calls_grew (CS _)))
        refine wpQuiet_nil ?_
        intro w5 hw'
        have hg5 := grew_of hw'
        have a4 := HB4.out w5 hg5
        have p2 := HP1.out w5 hg5
        have HG5 := Lib.hid hg5
        clear hw' hg5 x1 x2 x3 x4 y1 y2 y3 p1
        go_wp2
        go_ret
        exact ⟨ret_i HR.out.symm, grew_trans HG0.out HG5.out⟩
      · rw [decide_eq_false hx] at CS
        have HK2 := Lib.hid (HK1.out hx)
        clear hx HF1 HK1 a1 a2 a3 a4 q0 q1 q2 hQ hb
        generalize x.1.1 = z1 at *
        generalize x.1.2.1 = z2 at *
        generalize x.1.2.2 = z3 at *
        generalize x.2 = z4 at *
        go_wp2_with fail
        refine wp_region_grew (by kernel_rfl) (by kernel_rfl) ?_
        repeat (go_big_quiet_step (with_reducible exact calls_grew (CS _)))
        refine wpQuiet_nil ?_
        intro w5 hw'
        have HG5 := Lib.hid (grew_of hw')
        clear hw' x1 x2 x3 x4 y1 y2 y3 p1
        go_wp2
        go_roundw
        case rel => exact ⟨j + 1, by go_num, by omega, HK2.out, grew_trans HG.out HG5.out⟩
        case measure => simp only [intOf]; omega
    · obtain rfl : j = n := by omega
      have HR := Lib.hid (HNo.out (fun i hi => HK.out i (by rw [HL.out] at hi; exact hi)))
      go_wp2
      go_ret
      exact ⟨ret_i HR.out.symm, HG0.out⟩
end Go.Proofs.Ytafglljfgoeapaa.NumK
namespace Go.Proofs.Ytafglljfgoeapaa.NumK
open Go.RowKit

set_option maxRecDepth 100000 in
theorem ledger_yes (last : Int) (A B : Option Addr) (n c d : Nat) (l : List Lg) (w : World) (h : RowE enLg w A n l) (h2 : RowE enLg w B n l) (hn : n ≤ 1000000) :
    Calls Try.prog 17 #[ldV last A n c, ldV last B n d] w fun e w' => e = .returned (.bool true) ∧ Grew w w' := by
  have HI := Lib.hid h
  have HJ := Lib.hid h2
  clear h h2
  unfold ldV
  go_enter Try.func17, Try.ntmps17
  go_wp2
  go_loopw [5] (fun v wr => ∃ j : Nat, v = .int .i64 j ∧ j ≤ n ∧ Hid (Grew ((w.alloc (.cells #[.int .i64 last, .slice A n c] 24)).alloc (.cells #[.int .i64 last, .slice B n d] 24)) wr)) (fun v _ => n - (intOf v).toNat)
  case atStart => exact ⟨0, rfl, by omega, grew_refl _⟩
  case round =>
    obtain ⟨j, rfl, hj, HG⟩ := hrel
    obtain ⟨t1, t2, hg0⟩ := two_cells HG.out
    have HG0 := Lib.hid hg0
    have p1 : wr.cell? ⟨w.heap.size, 1, none⟩ = some (.slice A n c) := t1 1
    have q1 : wr.cell? ⟨w.heap.size + 1, 1, none⟩ = some (.slice B n d) := t2 1
    have hQ : w.heap.size + 1 < wr.heap.size := by have := HG.out.size; simp at this; omega
    clear t1 t2 hg0
    by_cases hlt : j < n
    · obtain ⟨b, o, rfl, hb, a1, a2, a3, a7⟩ := (HI.out.keep HG0.out).lg hlt
      obtain ⟨b2, o2, rfl, hb2, a4, a5, a6, a8⟩ := (HJ.out.keep HG0.out).lg hlt
      have i0 : (0 : Int) ≤ (j : Int) := by omega
      have i1 : (j : Int) < (n : Int) := by omega
      have CK := fun w => keepAcct_any (l.getD j lg0).1.1 (l.getD j lg0).1.2.1 (l.getD j lg0).1.2.2 (l.getD j lg0).1.1 (l.getD j lg0).1.2.1 (l.getD j lg0).1.2.2 w
      rw [sameA_iff, decide_eq_true rfl] at CK
      unfold acV at CK
      generalize l.getD j lg0 = x at *
      have x1 : ∀ p : GrewTo wr, p.to.cell? ⟨b, o + j * 4, none⟩ = _ := fun p => (grew_cell p.h (p := ⟨b, o + j * 4, none⟩) hb).trans a1
      have x2 : ∀ p : GrewTo wr, p.to.cell? ⟨b, o + j * 4 + 1, none⟩ = _ := fun p => (grew_cell p.h (p := ⟨b, o + j * 4 + 1, none⟩) hb).trans a2
      have x3 : ∀ p : GrewTo wr, p.to.cell? ⟨b, o + j * 4 + 2, none⟩ = _ := fun p => (grew_cell p.h (p := ⟨b, o + j * 4 + 2, none⟩) hb).trans a3
      have x4 : ∀ p : GrewTo wr, p.to.cell? ⟨b, o + j * 4 + 3, none⟩ = _ := fun p => (grew_cell p.h (p := ⟨b, o + j * 4 + 3, none⟩) hb).trans a7
      have y1 : ∀ p : GrewTo wr, p.to.cell? ⟨b2, o2 + j * 4, none⟩ = _ := fun p => (grew_cell p.h (p := ⟨b2, o2 + j * 4, none⟩) hb2).trans a4
      have y2 : ∀ p : GrewTo wr, p.to.cell? ⟨b2, o2 + j * 4 + 1, none⟩ = _ := fun p => (grew_cell p.h (p := ⟨b2, o2 + j * 4 + 1, none⟩) hb2).trans a5
      have y3 : ∀ p : GrewTo wr, p.to.cell? ⟨b2, o2 + j * 4 + 2, none⟩ = _ := fun p => (grew_cell p.h (p := ⟨b2, o2 + j * 4 + 2, none⟩) hb2).trans a6
      have y4 : ∀ p : GrewTo wr, p.to.cell? ⟨b2, o2 + j * 4 + 3, none⟩ = _ := fun p => (grew_cell p.h (p := ⟨b2, o2 + j * 4 + 3, none⟩) hb2).trans a8
      have z1 : ∀ p : GrewTo wr, p.to.cell? ⟨w.heap.size, 1, none⟩ = _ := fun p => (grew_cell p.h (p := ⟨w.heap.size, 1, none⟩) (Nat.lt_trans (Nat.lt_succ_self _) hQ)).trans p1
      have z2 : ∀ p : GrewTo wr, p.to.cell? ⟨w.heap.size + 1, 1, none⟩ = _ := fun p => (grew_cell p.h (p := ⟨w.heap.size + 1, 1, none⟩) hQ).trans q1
      clear a1 a2 a3 a4 a5 a6 a7 a8 hQ hb hb2
      generalize x.1.1 = k1 at *
      generalize x.1.2.1 = k2 at *
      generalize x.1.2.2 = k3 at *
      generalize x.2 = k4 at *
      go_wp2_with fail
      refine wp_region_grew (by kernel_rfl) (by kernel_rfl) ?_
      repeat (go_big_quiet_step (with_reducible exact calls_grew (CK _)))
      refine wpQuiet_nil ?_
      intro w5 hw'
      have HG5 := Lib.hid (grew_of hw')
      clear hw' x1 x2 x3 x4 y1 y2 y3 y4 z1 z2 p1 q1
      go_wp2
      go_roundw
      case rel => exact ⟨j + 1, by go_num, by omega, grew_trans HG.out HG5.out⟩
      case measure => simp only [intOf]; omega
    · obtain rfl : j = n := by omega
      go_wp2
      go_ret
      exact ⟨rfl, HG0.out⟩

theorem OwnE.same {α : Type} {E : En α} {w w' : World} {base : Nat} {t : TypeId} {v : Value} {l : List α} (h : OwnE E w base t v l) (hs : ∀ k, base ≤ k → w'.heap[k]? = w.heap[k]?) : OwnE E w' base t v l := by
  obtain ⟨hl, h⟩ := h
  refine ⟨hl, ?_⟩
  rcases h with h | ⟨b, cap, cur, hv, hb, hh, r⟩
  · exact Or.inl h
  · exact Or.inr ⟨b, cap, cur, hv, hb, by rw [hs b hb]; exact hh, r⟩
theorem OwnE.set {α : Type} {E : En α} {w : World} {base : Nat} {t : TypeId} {v : Value} {l : List α} (h : OwnE E w base t v l) (b i : Nat) (u : Value) (hb : b < base) : OwnE E (w.setCell ⟨b, i, none⟩ u) base t v l :=
  h.same fun k hk => Below.heap_setCell _ _ _ _ (by show k ≠ b; omega)
theorem below_cell {w w' : World} {base b i : Nat} {v : Value} (h : Below base w w') (hb : b < base) (hc : w.cell? ⟨b, i, none⟩ = some v) : w'.cell? ⟨b, i, none⟩ = some v := (Below.cell h (p := ⟨b, i, none⟩) hb).trans hc
theorem below_froz {w w' : World} {base b i : Nat} (h : Below base w w') (hb : b < base) (hc : w.frozen? ⟨b, i, none⟩ = false) : w'.frozen? ⟨b, i, none⟩ = false := (Below.frozen h (p := ⟨b, i, none⟩) hb).trans hc

theorem three_new (w : World) (c1 c2 c3 : Array Value) (t1 t2 t3 : TypeId) :
    (∀ i, (((w.alloc (.cells c1 t1)).alloc (.cells c2 t2)).alloc (.cells c3 t3)).cell? ⟨w.heap.size, i, none⟩ = c1[i]?) ∧ (∀ i, (((w.alloc (.cells c1 t1)).alloc (.cells c2 t2)).alloc (.cells c3 t3)).cell? ⟨w.heap.size + 1, i, none⟩ = c2[i]?) ∧ (∀ i, (((w.alloc (.cells c1 t1)).alloc (.cells c2 t2)).alloc (.cells c3 t3)).cell? ⟨w.heap.size + 1 + 1, i, none⟩ = c3[i]?)
    ∧ (∀ b i, b < w.heap.size + 3 → w.heap.size ≤ b → (((w.alloc (.cells c1 t1)).alloc (.cells c2 t2)).alloc (.cells c3 t3)).frozen? ⟨b, i, none⟩ = false) := by
  have s1 : (w.alloc (.cells c1 t1)).heap.size = w.heap.size + 1 := by simp
  have s2 : ((w.alloc (.cells c1 t1)).alloc (.cells c2 t2)).heap.size = w.heap.size + 1 + 1 := by simp
  refine ⟨fun i => ?_, fun i => ?_, fun i => ?_, fun b i h1 h2 => ?_⟩
  · rw [World.cell?_alloc_lt _ _ _ (by show w.heap.size < _; omega), World.cell?_alloc_lt _ _ _ (by show w.heap.size < _; omega), World.cell?_alloc_at _ _ _ _ rfl]
  · rw [World.cell?_alloc_lt _ _ _ (by show w.heap.size + 1 < _; omega), World.cell?_alloc_at _ _ _ _ s1.symm]
  · rw [World.cell?_alloc_at _ _ _ _ s2.symm]
  · have : b = w.heap.size ∨ b = w.heap.size + 1 ∨ b = w.heap.size + 1 + 1 := by omega
    rcases this with rfl | rfl | rfl
    · go_simp
    · go_simp
    · go_simp

set_option maxRecDepth 100000 in
theorem twinLedger_any (last : Int) (A : Option Addr) (n c : Nat) (l : List Lg) (w : World) (h : RowE enLg w A n l) (hA : A = none → c = 0) (hn : n ≤ 1000000) :
    Calls Try.prog 10 #[ldV last A n c] w fun e w' => ∃ A' c', e = .returned (ldV last A' n c') ∧ OwnE enLg w' w.heap.size 64 (.slice A' n c') l ∧ Grew w w' := by
  have HI := Lib.hid h
  have HL := Lib.hid h.len
  have HA := Lib.hid hA
  clear h hA
  obtain ⟨-, n1, n2, n3⟩ := three_new w #[.int .i64 last, .slice A n c] #[.int .i64 0, .slice none 0 0] #[.int .i64 last, .slice none 0 0] 24 24 24
  have N1 := Lib.hid n1
  have N2 := Lib.hid n2
  have N3 := Lib.hid n3
  clear n1 n2 n3
  unfold ldV
  go_enter Try.func10, Try.ntmps10
  go_wp2_with (at_builtin; refine (wpList_append_E rfl _ _ 22 64 (legV 0 0 0 0) 32 rfl Try.underlying22 info_bal rfl (w.heap.size + 3) _ [] rfl (OwnE.nil enLg _ _ _) A n c l rfl HA.out (HI.out.keep (grew_trans (grew_alloc _ _ _) (grew_trans (grew_alloc _ _ _) (grew_alloc _ _ _)))) (by simp; unfold maxLen; omega) (by simp; omega) (by simp) ?_); intro v' w' ho hb; have d0 := below_cell (b := w.heap.size + 1 + 1) (i := 0) (v := .int .i64 last) hb (by omega) (N2.out 0); have d1 := below_cell (b := w.heap.size + 1 + 1) (i := 1) (v := .slice none 0 0) hb (by omega) (N2.out 1); have e0 := below_cell (b := w.heap.size + 1) (i := 0) (v := .int .i64 0) hb (by omega) (N1.out 0); have e1 := below_cell (b := w.heap.size + 1) (i := 1) (v := .slice none 0 0) hb (by omega) (N1.out 1); have f1 := below_froz (b := w.heap.size + 1 + 1) (i := 1) hb (by omega) (N3.out _ _ (by omega) (by omega)); have f2 := below_froz (b := w.heap.size + 1) (i := 0) hb (by omega) (N3.out _ _ (by omega) (by omega)); have f3 := below_froz (b := w.heap.size + 1) (i := 1) hb (by omega) (N3.out _ _ (by omega) (by omega)); rw [List.nil_append] at ho; obtain ⟨A', c', rfl, -⟩ := ho.form; have HO := Lib.hid ho; have HE : Hid (Own2 w' (w.heap.size + 1) (.int .i64 0) (.slice none 0 0)) := ⟨e0, e1, f2, f3, by have := hb.size; simp at this; omega⟩; have HB : Hid (Grew w w') := Below.trans (grew_trans (grew_alloc _ _ _) (grew_trans (grew_alloc _ _ _) (grew_alloc _ _ _))) (Below.mono hb (by omega)); clear ho hb)
  have HE2 := (HE.out.other ⟨w.heap.size + 1 + 1, 1, none⟩ (.slice A' l.length c') (by show _ + 1 + 1 ≠ _ + 1; omega)).set (.int .i64 last) (.slice A' l.length c')
  have r0 := HE2.c0
  have r1 := HE2.c1
  refine bodyPost_ret (v := .agg #[.int .i64 last, .slice A' l.length c']) (by simp [results, Try.results10, go_sem, r0, r1]) rfl ?_
  have HO2 := ((HO.out.set (w.heap.size + 1 + 1) 1 (.slice A' l.length c') (by omega)).set (w.heap.size + 1) 0 (.int .i64 last) (by omega)).set (w.heap.size + 1) 1 (.slice A' l.length c') (by omega)
  rw [HL.out] at HO2 ⊢
  exact ⟨A', c', rfl, HO2.mono (by omega), grew_set (grew_set (grew_set HB.out _ (by show _ ≤ w.heap.size + 1 + 1; omega)) _ (by show _ ≤ w.heap.size + 1; omega)) _ (by show _ ≤ w.heap.size + 1; omega)⟩

theorem spoilLedger_any (last : Int) (A : Option Addr) (n c base : Nat) (w : World) (hA : n = 0 ∨ ∃ g, A = some ⟨g, 0, none⟩ ∧ base ≤ g ∧ Slab w g (n * 4)) (hn : n ≤ 1000000) (hb0 : base ≤ w.heap.size) :
    Calls Try.prog 18 #[ldV last A n c] w fun e w' => e = .returned (.tuple #[]) ∧ Below base w w' := by
  have HA := Lib.hid hA
  have HB0 := Lib.hid hb0
  clear hA hb0
  unfold ldV
  go_enter Try.func18, Try.ntmps18
  go_wp2
  go_loopw [2] (fun vi wr => ∃ k : Nat, vi = .int .i64 k ∧ k ≤ n ∧ Hid (∀ g, A = some ⟨g, 0, none⟩ → 0 < n → g < w.heap.size ∧ Slab wr g (n * 4)) ∧ Hid (Below base w wr) ∧ Hid (wr.cell? ⟨w.heap.size, 1, none⟩ = some (.slice A n c))) (fun vi _ => n - (intOf vi).toNat)
  case atStart =>
    refine ⟨0, rfl, Nat.zero_le _, fun g hg h0 => ?_, Below.mono (grew_alloc _ _ _) HB0.out, by show _ = _; simp⟩
    rcases HA.out with h | ⟨g', e, _, hs⟩
    · omega
    · rw [hg] at e; cases e; exact ⟨hs.1, hs.keep (grew_alloc _ _ _)⟩
  case round =>
    obtain ⟨k, rfl, hk, HS, HB, HC⟩ := hrel
    have c1 := HC.out
    by_cases hlt : k < n
    · obtain ⟨g, rfl, hb, _⟩ : ∃ g, A = some ⟨g, 0, none⟩ ∧ base ≤ g ∧ Slab w g (n * 4) := by
        rcases HA.out with h | h
        · omega
        · exact h
      have HS2 := Lib.hid (HS.out g rfl (by omega))
      obtain ⟨⟨x, a1⟩, a2⟩ := HS2.out.2.2 (k * 4 + 1) (by omega)
      have a3 : (k : Int) < (n : Int) := by omega
      have HB2 : Hid (Below base w (wr.setCell ⟨g, k * 4 + 1, none⟩ (.int .i64 (-77)))) := Below.setCell HB.out hb _
      have HS3 := Lib.hid (HS2.out.2.set g (k * 4 + 1) (.int .i64 (-77)))
      have HC2 : Hid ((wr.setCell ⟨g, k * 4 + 1, none⟩ (.int .i64 (-77))).cell? ⟨w.heap.size, 1, none⟩ = some (.slice (some ⟨g, 0, none⟩) n c)) := by
        have hg := HS2.out.1
        show _ = _
        rw [World.cell?_setCell_other _ _ _ _ (by intro e; simp only [Addr.mk.injEq] at e; omega)]; exact HC.out
      go_wp2
      go_roundw
      case rel => exact ⟨k + 1, by go_num, by omega, fun g' hg' _ => by cases hg'; exact ⟨HS2.out.1, HS3.out⟩, HB2, HC2⟩
      case measure => simp only [intOf]; omega
    · go_wp2
      go_end0
      exact ⟨rfl, HB.out⟩
end Go.Proofs.Ytafglljfgoeapaa.NumK
