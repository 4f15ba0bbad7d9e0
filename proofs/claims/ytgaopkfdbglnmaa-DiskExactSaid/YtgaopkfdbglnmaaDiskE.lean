/- disk: what a Write builds and appends. -/
import Derived.Test.YtgaopkfdbglnmaaDiskD
import Derived.Great.BuildSlice
import Derived.Deep.RegionHeld3
import Derived.Deep.DrawnRows
namespace Go.Proofs.Ytgaopkfdbglnmaa.NumK
open Go.RowKit

theorem info66 : (Try.prog.info? 66).map (fun i => (i.zero, i.size, i.bytes)) = some (some (.agg (wrC (0, blk0)).toArray), 65, 72) := by kernel_rfl
theorem places66 : (match Try.prog.underlying 66 with | some (.struct fs) => fs.toList.mapM (fun f => (Try.prog.info? f.type).map fun i => (f.offset, i.size)) | _ => none) = some [(0, 1), (1, 64)] := by kernel_rfl
theorem size66 {n : Nat} (h : 65 = n) : (Try.prog.info? 66).map (·.size) = some n := by
  subst h
  cases hq : Try.prog.info? 66 with
  | none => have := info66; rw [hq] at this; simp at this
  | some i => have := info66; rw [hq] at this; simp at this; simp [this]
theorem under66 : ∃ d, Try.prog.underlying 66 = some d ∧ d.isRow = true := by
  have := places66
  cases hq : Try.prog.underlying 66 with
  | none => rw [hq] at this; simp at this
  | some d =>
    rw [hq] at this
    cases d <;> first | (simp at this; done) | exact ⟨_, rfl, rfl⟩
theorem zero66 (w : World) : (zeroValue 66).run Try.prog w = .ok (.agg (wrC (0, blk0)).toArray) w := by
  cases hq : Try.prog.info? 66 with
  | none => have := info66; rw [hq] at this; simp at this
  | some i => have := info66; rw [hq] at this; simp at this; simp [zeroValue, typeInfo, hq, this]

/-- A number's cell and 64 behind it. -/
theorem fill_write (v : Value) (hv : v.cells = #[v]) (cs : List Value) (hc : cs.length = 64) (z : Array Value) (hz : z.size = 65) :
    Instr.fill (fun i => [(0, 1), (1, 64)][i]?) z [(0, v), (1, .agg cs.toArray)] = some (v :: cs).toArray := by
  have hcc : (Value.agg cs.toArray).cells = cs.toArray := rfl
  simp only [Instr.fill, List.getElem?_cons_zero, List.getElem?_cons_succ, hv, hcc]
  obtain ⟨g1, g2⟩ := Great.foldl_set 0 [v] 0 z
  have e1 : ((#[v] : Array Value).zipIdx.foldl (fun cs (x : Value × Nat) => cs.setIfInBounds (0 + x.2) x.1) z) = (([v].zipIdx 0).foldl (fun cs (x : Value × Nat) => cs.setIfInBounds (0 + x.2) x.1) z) := by simp
  have h2 : ∀ z' : Array Value, (cs.toArray.zipIdx.foldl (fun cs (x : Value × Nat) => cs.setIfInBounds (1 + x.2) x.1) z') = ((cs.zipIdx 0).foldl (fun cs (x : Value × Nat) => cs.setIfInBounds (1 + x.2) x.1) z') := by
    intro z'
    simp
  rw [if_neg (by simp [hz])]
  rw [if_neg (by
    have : ((#[v] : Array Value).zipIdx.foldl (fun cs (x : Value × Nat) => cs.setIfInBounds (0 + x.2) x.1) z).size = 65 := by rw [e1, g1, hz]
    simp only [ne_eq, decide_eq_true_eq, Bool.or_eq_true, not_or]
    simp [hc]
    simpa using Nat.le_of_eq this.symm)]
  have e3 := h2 ((#[v] : Array Value).zipIdx.foldl (fun cs (x : Value × Nat) => cs.setIfInBounds (0 + x.2) x.1) z)
  refine congrArg some ?_
  refine Eq.trans e3 ?_
  rw [e1]
  generalize hz1 : (([v].zipIdx 0).foldl (fun cs (x : Value × Nat) => cs.setIfInBounds (0 + x.2) x.1) z) = z1 at g1 g2
  obtain ⟨k1, k2⟩ := Great.foldl_set 1 cs 0 z1
  apply Array.ext_getElem?
  intro i
  rw [k2 i, g2 i]
  simp only [g1, hz, hc, List.length_singleton]
  by_cases h0 : i = 0
  · subst h0; simp
  · by_cases h1 : i < 65
    · rw [if_pos (by omega)]
      obtain ⟨j, rfl⟩ : ∃ j, i = j + 1 := ⟨i - 1, by omega⟩
      simp
    · rw [if_neg (by omega), if_neg (by omega)]
      simp only [List.getElem?_toArray]
      rw [List.getElem?_eq_none (by simp [hc]; omega), Array.getElem?_eq_none (by omega)]
theorem run_build66 (w : World) (k : Int) (cs : List Value) (hc : cs.length = 64) : (Instr.build 66 #[(0, .int .i64 k), (1, .agg cs.toArray)]).run Try.prog w = .ok (.agg (.int .i64 k :: cs).toArray) w := by
  refine run_build w _ _ _ ?_
  have h1 := places66
  have h2 := info66
  unfold Program.built
  cases hq : Try.prog.info? 66 with
  | none => rw [hq] at h2; simp at h2
  | some it =>
    rw [hq] at h2
    simp only [Option.map_some, Option.some.injEq, Prod.mk.injEq] at h2
    cases hu : Try.prog.underlying 66 with
    | none => rw [hu] at h1; simp at h1
    | some d =>
      rw [hu] at h1
      cases d <;> try (simp at h1; done)
      rename_i fs
      simp only at h1 ⊢
      rw [h2.1, h1]
      simp only
      have := fill_write (.int .i64 k) rfl cs hc (wrC (0, blk0)).toArray (by simp [wrC, bytesV_len, blk0])
      simpa [Value.cells] using this
theorem run_slice66 (w : World) (cs : List Value) (hc : cs.length = 65) : (Instr.buildSlice 36 1 #[(0, .agg cs.toArray)]).run Try.prog w = .ok (.slice (some ⟨w.heap.size, 0, none⟩) 1 1) (w.alloc (.cells cs.toArray 66)) := by
  have h2 := info66
  cases hq : Try.prog.info? 66 with
  | none => rw [hq] at h2; simp at h2
  | some it =>
    rw [hq] at h2
    simp only [Option.map_some, Option.some.injEq, Prod.mk.injEq] at h2
    refine run_buildSlice w _ _ 1 _ cs.toArray it _ Try.underlying36 hq h2.1 (by rw [h2.2.1]; decide) (by rw [h2.2.1]; decide) ?_
    rw [h2.2.1]
    obtain ⟨r, hr, hsz, hk⟩ := Great.fill_dense (s := 65) (by decide) [.agg cs.toArray] 0 ((Array.range (1 * 65)).map fun x => (Value.agg (wrC (0, blk0)).toArray).cells[x % (Value.agg (wrC (0, blk0)).toArray).cells.size]!) (by intro v hv; simp at hv; subst hv; simpa [Value.cells] using hc) (by simp)
    have : r = cs.toArray := by
      apply Array.ext_getElem?
      intro i
      rw [hk i]
      by_cases hi : i < 65
      · rw [if_pos (by simp; omega)]
        simp [show i / 65 = 0 by omega, Nat.mod_eq_of_lt hi, Value.cells]
      · rw [if_neg (by simp; omega), Array.getElem?_eq_none (by simp; omega), Array.getElem?_eq_none (by simp [hc]; omega)]
    rw [this] at hr
    simpa using hr
/-- In a region that draws its order. -/
theorem yieldsIf_build66 {ops : Array Oper} {S : World → Prop} {o : Oper} {a : Act} (hw : Region.wanted o (yielded ops a.tmps) = true) (x y : Operand) (ho : o.op = .build 66 #[(0, x), (1, y)]) (k : Int) (cs : List Value)
    (hx : a.eval x = .int .i64 k) (hy : a.eval y = .agg cs.toArray) (hc : cs.length = 64) : YieldsIf Try.prog ops S o (.agg (.int .i64 k :: cs).toArray) a :=
  .inl ⟨hw, fun w _ => by
    unfold execOp
    simp only [ho, List.map_toArray, List.map_cons, List.map_nil, hx, hy, Sem.run_bind, run_build66 w k cs hc, Result.andThen_ok, Sem.run_pure]⟩
theorem step_slice66 {ops : Array Oper} {o : Oper} {a : Act} {w : World} {K : Act → World → Prop} {Q : Exit → Act → World → Prop} {E : Prop} (hgd : o.guard = none) (x : Operand) (ho : o.op = .buildSlice 36 1 #[(0, x)]) (cs : List Value) (hx : a.eval x = .agg cs.toArray) (hc : cs.length = 65)
    (h : K (a.put o.dst (.slice (some ⟨w.heap.size, 0, none⟩) 1 1)) (w.alloc (.cells cs.toArray 66))) : if Region.wanted o (yielded ops a.tmps) = true then Oper.wp Try.prog o a w K Q else E := by
  have hw : Region.wanted o (yielded ops a.tmps) = true := by simp [Region.wanted, hgd]
  rw [if_pos hw]
  unfold Oper.wp execOp
  simp only [ho, List.map_toArray, List.map_cons, List.map_nil, hx, Sem.run_bind, run_slice66 w cs hc, Result.andThen_ok, Sem.run_pure]
  exact h
end Go.Proofs.Ytgaopkfdbglnmaa.NumK
