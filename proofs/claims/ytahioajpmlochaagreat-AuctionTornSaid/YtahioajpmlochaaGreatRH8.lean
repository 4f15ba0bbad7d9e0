/- Contracts of package num: products (cut from XNumB). -/
import Derived.Test.YtahioajpmlochaaGreatRH3
import Derived.Deep.QuietTactic
import Derived.BigQuiet
import Derived.Maps.Own
import Derived.Maps.Views
import Derived.DeepKeys4
import Derived.WideKeyEntry
import Derived.Test.YtahioajpmlochaaGreatRH2
import Derived.Laws.OwnMore
import Derived.Lib.AppendZerosOnto
import Derived.Lib.Walk
import Derived.Lib.SliceRun
import Derived.Deep.CutBlock
import Derived.Test.YtahioajpmlochaaGreatRH4
namespace Go.Proofs.YtahioajpmlochaaGreat.NumK
open Go.RowKit

/-! ### products -/
theorem size_any (n : Int) (w : World) (h : isMoney n = true) :
    Calls Tryz.prog 44 #[.int .i64 n] w fun e w' => e = .returned (.int .u64 (n.natAbs : Int)) ∧ w = w' := by
  rw [isMoney_iff] at h
  obtain ⟨h1, h2⟩ := h
  by_cases c : n < 0
  · obtain ⟨m, rfl⟩ : ∃ m : Int, n = -m := ⟨-n, by omega⟩
    have e : ((-m).natAbs : Int) = m := by omega
    have E := Lib.hid e
    clear e
    go_enter Tryz.func44, Tryz.ntmps44
    go_wp2
    go_ret
    exact ⟨ret_i E.out.symm, rfl⟩
  · have e : (n.natAbs : Int) = n := by omega
    have E := Lib.hid e
    clear e
    go_enter Tryz.func44, Tryz.ntmps44
    go_wp2
    go_ret
    exact ⟨ret_i E.out.symm, rfl⟩

def mulV (a b : Int) : Int := if [a, b].all isMoney then capV (a * b) else 0
def mulE (a b : Int) : Int := if [a, b].all isMoney then capE (a * b) else 3
theorem mulV_in {a b : Int} (h : [a, b].all isMoney = true) : mulV a b = capV (a * b) := by simp only [mulV, h, if_true]
theorem mulE_in {a b : Int} (h : [a, b].all isMoney = true) : mulE a b = capE (a * b) := by simp only [mulE, h, if_true]
theorem mulV_out {a b : Int} (h : [a, b].all isMoney = false) : mulV a b = 0 := by unfold mulV; rw [h]; rfl
theorem mulE_out {a b : Int} (h : [a, b].all isMoney = false) : mulE a b = 3 := by unfold mulE; rw [h]; rfl

theorem times_wrong (a b : Int) (w : World) (h : [a, b].all isMoney = false) :
    Calls Tryz.prog 20 #[.int .i64 a, .int .i64 b] w fun e w' => e = .returned (.tuple #[.int .i64 (mulV a b), .int .i64 (mulE a b)]) ∧ Grew w w' := by
  have C := (right_any (some ⟨w.heap.size, 0, none⟩) 2 2 [a, b] _ (ints2 w a b 3) (by omega))
  rw [h] at C
  have H := Lib.hid h
  clear h
  go_enter Tryz.func20, Tryz.ntmps20
  go_wp2_with (go_at_call 34; ((with_reducible refine C.mono ?_); rintro e w' ⟨rfl, rfl⟩))
  go_ret2
  exact ⟨ret2 (mulV_out H.out).symm (mulE_out H.out).symm, grew_alloc _ _ _⟩

set_option maxHeartbeats 1000000 in
theorem times_right (a b : Int) (w : World) (h : [a, b].all isMoney = true) :
    Calls Tryz.prog 20 #[.int .i64 a, .int .i64 b] w fun e w' => e = .returned (.tuple #[.int .i64 (mulV a b), .int .i64 (mulE a b)]) ∧ Grew w w' := by
  have C := (right_any (some ⟨w.heap.size, 0, none⟩) 2 2 [a, b] _ (ints2 w a b 3) (by omega))
  rw [h] at C
  have E1 := Lib.hid (mulV_in h)
  have E2 := Lib.hid (mulE_in h)
  have ha : isMoney a = true := by simp only [List.all_cons, Bool.and_eq_true] at h; exact h.1
  have hb : isMoney b = true := by simp only [List.all_cons, Bool.and_eq_true] at h; exact h.2.1
  have A := Lib.hid ha
  have B := Lib.hid hb
  rw [isMoney_iff] at ha hb
  have hp : ((a * b).natAbs) = a.natAbs * b.natAbs := Int.natAbs_mul a b
  have hs : (a < 0 ↔ b < 0) → 0 ≤ a * b := fun h => by
    by_cases c : a < 0
    · exact Int.mul_nonneg_of_nonpos_of_nonpos (by omega) (by omega)
    · exact Int.mul_nonneg (by omega) (by omega)
  have hn : (a < 0 ↔ ¬ b < 0) → a * b ≤ 0 := fun h => by
    by_cases c : a < 0
    · exact Int.mul_nonpos_of_nonpos_of_nonneg (by omega) (by omega)
    · exact Int.mul_nonpos_of_nonneg_of_nonpos (by omega) (by omega)
  have HS := Lib.hid hs
  have HN := Lib.hid hn
  have HP := Lib.hid hp
  clear h hs hn hp
  have M := mul64_any a.natAbs b.natAbs (by omega) (by omega)
  generalize hP : a.natAbs * b.natAbs = P at *
  clear hP ha hb
  have HI : Hid (isMoney (a * b) = decide (P ≤ 4611686018427387904)) := by
    show isMoney (a * b) = _
    rw [Bool.eq_iff_iff, isMoney_iff, decide_eq_true_iff]
    have := HP.out
    omega
  by_cases c1 : (P / 18446744073709551616 : Nat) = 0
  · have e1 : ((P / 18446744073709551616 : Nat) : Int) = 0 := by omega
    have e2 : ((P % 18446744073709551616 : Nat) : Int) = (P : Int) := by omega
    have M := M (w.alloc (.cells #[.int .i64 a, .int .i64 b] 3))
    rw [e1, e2] at M
    clear e1 e2 c1
    by_cases c2 : P ≤ 4611686018427387904
    · have hI : isMoney (a * b) = true := by rw [HI.out]; simpa using c2
      have HM := Lib.hid hI
      clear hI
      have g : (P : Int) ≤ 4611686018427387904 := by omega
      by_cases s1 : a < 0 <;> by_cases s2 : b < 0
      · have d1 : decide (a < 0) = true := by simpa using s1
        have d2 : decide (b < 0) = true := by simpa using s2
        go_enter Tryz.func20, Tryz.ntmps20
        go_wp2_with (first | (go_at_call 34; ((with_reducible refine C.mono ?_); rintro e w' ⟨rfl, rfl⟩)) | (go_at_call 44; ((with_reducible refine (size_any _ _ A.out).mono ?_); rintro e w' ⟨rfl, rfl⟩)) | (go_at_call 44; ((with_reducible refine (size_any _ _ B.out).mono ?_); rintro e w' ⟨rfl, rfl⟩)) | (go_at_call 43; ((with_reducible refine M.mono ?_); rintro e w' ⟨rfl, rfl⟩)))
        go_ret2
        have hp := HP.out
        have hs := HS.out (by omega)
        exact ⟨ret2 (by rw [E1.out, capV_in HM.out]; omega) (by rw [E2.out, capE_in HM.out]), grew_alloc _ _ _⟩
      · have d1 : decide (a < 0) = true := by simpa using s1
        have d2 : decide (b < 0) = false := by simpa using s2
        go_enter Tryz.func20, Tryz.ntmps20
        go_wp2_with (first | (go_at_call 34; ((with_reducible refine C.mono ?_); rintro e w' ⟨rfl, rfl⟩)) | (go_at_call 44; ((with_reducible refine (size_any _ _ A.out).mono ?_); rintro e w' ⟨rfl, rfl⟩)) | (go_at_call 44; ((with_reducible refine (size_any _ _ B.out).mono ?_); rintro e w' ⟨rfl, rfl⟩)) | (go_at_call 43; ((with_reducible refine M.mono ?_); rintro e w' ⟨rfl, rfl⟩)))
        go_ret2
        have hp := HP.out
        have hs := HN.out (by omega)
        exact ⟨ret2 (by rw [E1.out, capV_in HM.out]; omega) (by rw [E2.out, capE_in HM.out]), grew_alloc _ _ _⟩
      · have d1 : decide (a < 0) = false := by simpa using s1
        have d2 : decide (b < 0) = true := by simpa using s2
        go_enter Tryz.func20, Tryz.ntmps20
        go_wp2_with (first | (go_at_call 34; ((with_reducible refine C.mono ?_); rintro e w' ⟨rfl, rfl⟩)) | (go_at_call 44; ((with_reducible refine (size_any _ _ A.out).mono ?_); rintro e w' ⟨rfl, rfl⟩)) | (go_at_call 44; ((with_reducible refine (size_any _ _ B.out).mono ?_); rintro e w' ⟨rfl, rfl⟩)) | (go_at_call 43; ((with_reducible refine M.mono ?_); rintro e w' ⟨rfl, rfl⟩)))
        go_ret2
        have hp := HP.out
        have hs := HN.out (by omega)
        exact ⟨ret2 (by rw [E1.out, capV_in HM.out]; omega) (by rw [E2.out, capE_in HM.out]), grew_alloc _ _ _⟩
      · have d1 : decide (a < 0) = false := by simpa using s1
        have d2 : decide (b < 0) = false := by simpa using s2
        go_enter Tryz.func20, Tryz.ntmps20
        go_wp2_with (first | (go_at_call 34; ((with_reducible refine C.mono ?_); rintro e w' ⟨rfl, rfl⟩)) | (go_at_call 44; ((with_reducible refine (size_any _ _ A.out).mono ?_); rintro e w' ⟨rfl, rfl⟩)) | (go_at_call 44; ((with_reducible refine (size_any _ _ B.out).mono ?_); rintro e w' ⟨rfl, rfl⟩)) | (go_at_call 43; ((with_reducible refine M.mono ?_); rintro e w' ⟨rfl, rfl⟩)))
        go_ret2
        have hp := HP.out
        have hs := HS.out (by omega)
        exact ⟨ret2 (by rw [E1.out, capV_in HM.out]; omega) (by rw [E2.out, capE_in HM.out]), grew_alloc _ _ _⟩
    · have hI : isMoney (a * b) = false := by rw [HI.out]; simpa using c2
      have HM := Lib.hid hI
      clear hI
      have g : (4611686018427387904 : Int) < (P : Int) := by omega
      go_enter Tryz.func20, Tryz.ntmps20
      go_wp2_with (first | (go_at_call 34; ((with_reducible refine C.mono ?_); rintro e w' ⟨rfl, rfl⟩)) | (go_at_call 44; ((with_reducible refine (size_any _ _ A.out).mono ?_); rintro e w' ⟨rfl, rfl⟩)) | (go_at_call 44; ((with_reducible refine (size_any _ _ B.out).mono ?_); rintro e w' ⟨rfl, rfl⟩)) | (go_at_call 43; ((with_reducible refine M.mono ?_); rintro e w' ⟨rfl, rfl⟩)))
      go_ret2
      exact ⟨ret2 (by rw [E1.out, capV_out HM.out]) (by rw [E2.out, capE_out HM.out]), grew_alloc _ _ _⟩
  · have hI : isMoney (a * b) = false := by rw [HI.out]; simp; omega
    have HM := Lib.hid hI
    clear hI
    have M := M (w.alloc (.cells #[.int .i64 a, .int .i64 b] 3))
    have g : (((P / 18446744073709551616 : Nat) : Int) != 0) = true := by
      have : ((P / 18446744073709551616 : Nat) : Int) ≠ 0 := by omega
      simpa using this
    generalize ((P / 18446744073709551616 : Nat) : Int) = Hi at *
    generalize ((P % 18446744073709551616 : Nat) : Int) = Lo at *
    go_enter Tryz.func20, Tryz.ntmps20
    go_wp2_with (first | (go_at_call 34; ((with_reducible refine C.mono ?_); rintro e w' ⟨rfl, rfl⟩)) | (go_at_call 44; ((with_reducible refine (size_any _ _ A.out).mono ?_); rintro e w' ⟨rfl, rfl⟩)) | (go_at_call 44; ((with_reducible refine (size_any _ _ B.out).mono ?_); rintro e w' ⟨rfl, rfl⟩)) | (go_at_call 43; ((with_reducible refine M.mono ?_); rintro e w' ⟨rfl, rfl⟩)))
    go_ret2
    exact ⟨ret2 (by rw [E1.out, capV_out HM.out]) (by rw [E2.out, capE_out HM.out]), grew_alloc _ _ _⟩

theorem times_any (a b : Int) (w : World) :
    Calls Tryz.prog 20 #[.int .i64 a, .int .i64 b] w fun e w' => e = .returned (.tuple #[.int .i64 (mulV a b), .int .i64 (mulE a b)]) ∧ Grew w w' := by
  by_cases h : [a, b].all isMoney = true
  · exact times_right a b w h
  · exact times_wrong a b w (by simpa using h)

end Go.Proofs.YtahioajpmlochaaGreat.NumK
namespace Go.Proofs.YtahioajpmlochaaGreat.NumK
open Go.RowKit Go.Maps
set_option linter.unusedVariables false

/-- A slice value: none, or its block, its length, its capacity. -/
abbrev Sv := Option (Nat × Nat × Nat)
def vSv : Sv → Value
  | none => .slice none 0 0
  | some (g, n, c) => .slice (some ⟨g, 0, none⟩) n c
def dSv : Sv → DataW Unit
  | none => .lit (.bool false)
  | some (g, n, c) => .agg [.lit (.int .i64 g), .lit (.int .i64 n), .lit (.int .i64 c)]
def readSv (v : Value) : Option (DataW Unit × List MemPlace) :=
  match v with
  | .slice none 0 0 => some (dSv none, [])
  | .slice (some ⟨g, 0, none⟩) n c => some (dSv (some (g, n, c)), [])
  | _ => none
theorem readSv_mk (s : Sv) : readSv (vSv s) = some (dSv s, []) := by
  rcases s with _ | ⟨g, n, c⟩ <;> rfl
theorem dSv_inj {s t : Sv} (h : dSv s = dSv t) : s = t := by
  rcases s with _ | ⟨g, n, c⟩ <;> rcases t with _ | ⟨g', n', c'⟩
  · rfl
  · unfold dSv at h; cases h
  · unfold dSv at h; cases h
  · simp only [dSv, DataW.agg.injEq, List.cons.injEq, DataW.lit.injEq, Lit.int.injEq, true_and, and_true, Int.natCast_inj] at h
    obtain ⟨rfl, rfl, rfl⟩ := h
    rfl
theorem readSv_inv {v : Value} {s : Sv} {ps : List MemPlace} (h : readSv v = some (dSv s, ps)) : v = vSv s := by
  unfold readSv at h
  split at h
  · simp only [Option.some.injEq, Prod.mk.injEq] at h
    rw [← dSv_inj h.1]; rfl
  · simp only [Option.some.injEq, Prod.mk.injEq] at h
    rw [← dSv_inj h.1]; rfl
  · cases h
theorem OwnE.sv {α : Type} {E : En α} {w : World} {base : Nat} {t : TypeId} {v : Value} {l : List α} (h : OwnE E w base t v l) : ∃ s, v = vSv s := by
  obtain ⟨_, h⟩ := h
  rcases h with ⟨rfl, _⟩ | ⟨g, cap, cur, rfl, _⟩
  · exact ⟨none, rfl⟩
  · exact ⟨some (g, l.length, cap), rfl⟩

theorem grownBy_set {w : World} {b : Nat} {es : Array MapEntry} {clock : Nat} (hb : w.heap[b]? = some (.map es clock)) (o : Obj) : w.grownBy (ChangeMaps.setBlock w b o) (some b) :=
  ⟨rfl, rfl, rfl, by simp [ChangeMaps.setBlock], fun i _ hi => ChangeMaps.heap_setBlock_other hb _ (fun e => hi (by rw [e]))⟩

/-- The entry with some stamp is where that stamp is. -/
theorem stamp_at {l : Array MapEntry} (hn : (l.toList.map (·.born)).Nodup) {j : Nat} {e0 : MapEntry} (h : l.toList[j]? = some e0) : l.findIdx? (fun e => ((e.born : Nat) : Int) == ((e0.born : Nat) : Int)) = some j := by
  rw [WideElems.findIdx_arr]
  exact WideElems.findIdx_born hn h

end Go.Proofs.YtahioajpmlochaaGreat.NumK
namespace Go.Proofs.YtahioajpmlochaaGreat.NumK
open Go.RowKit Go.Maps
set_option linter.unusedVariables false

section
variable {κ α : Type} [DecidableEq κ] {E : En α} {w : World} {base : Nat} {t : TypeId} {v : κ → Value} {rows : κ → List α} {ops : Array Oper} {rest : List Oper} {o : Oper} {a : Act} {Q : Exit → Act → World → Prop}
/-- One more in the row of a key, in a plain region. -/
theorem wpList_fam (key : κ) (hgd : o.guard = none) (p q : Operand) (T : TypeId) (z : Value) (by' : Nat)
    (ho : o.op = .call { callee := .builtin .append, args := #[p, q], argTypes := #[T, T] })
    (hT : Tryz.prog.underlying T = some (.slice t)) (hi : (Tryz.prog.info? t).map (fun i => (i.zero, i.size, i.bytes)) = some (some z, E.size, by')) (hz : z.cells.size = E.size)
    (h : Fam E w base t v rows) (hs : a.eval p = v key) (N : Nat) (x : α) (hx : a.eval q = .slice (some ⟨N, 0, none⟩) 1 1) (hR : RowE E w (some ⟨N, 0, none⟩) 1 [x])
    (hm : (rows key).length + 1 ≤ maxLen) (hlim : ((rows key).length + 1) * by' ≤ 140737488355328) (hbase : base ≤ w.heap.size)
    (k : ∀ v' w', Fam E w' base t (upd v key v') (upd rows key (rows key ++ [x])) → Below base w w' → w.grownBy w' (v key).ownBlock → wpList Tryz.prog ops Q rest (a.put o.dst v') w') : wpList Tryz.prog ops Q (o :: rest) a w := by
  obtain ⟨i, hi, hz0, hz1, hz2⟩ := info_parts hi
  refine wpList_append_lies w hgd p q T ho base t i z E.size by' hT hi hz0 hz1 hz2 hz E.pos (v key) (rows key).length _ hs (h.own key) ⟨N, 0, none⟩ 1 1 (E.cs x) hx (by rw [E.len, Nat.one_mul]) (news_one hR) (E.one x) (by omega) hm hlim hbase _ rfl fun g cap w' h2 h3 h4 h5 => k _ w' (h.grown key ?_ h3 fun g' hg' => ?_) (h.below key h3 hbase) h3
  · show w'.ownsRow base t E.size _ (rows key ++ [x]).length ((rows key ++ [x]).flatMap E.cs)
    rw [List.length_append, List.flatMap_append]
    simpa using h2
  · have : g = g' := by simpa [Value.ownBlock] using hg'
    subst this
    exact h4
end

theorem upd_vSv {κ : Type} [DecidableEq κ] (g : κ → Sv) (k : κ) (s : Sv) : upd (fun k => vSv (g k)) k (vSv s) = fun i => vSv (upd g k s i) := by
  funext i
  unfold upd
  split <;> rfl
theorem Fam.cong2 {κ α : Type} {E : En α} {w : World} {base : Nat} {t : TypeId} {v v2 : κ → Value} {rows r2 : κ → List α} (h : Fam E w base t v rows) (e1 : v = v2) (e2 : ∀ k, rows k = r2 k) : Fam E w base t v2 r2 := e1 ▸ h.congr e2

end Go.Proofs.YtahioajpmlochaaGreat.NumK
namespace Go.Proofs.YtahioajpmlochaaGreat.NumK
open Go.RowKit
set_option linter.unusedVariables false

/-- A block of the call's own: N cells that may be written. -/
def Slab (w : World) (g N : Nat) : Prop := g < w.heap.size ∧ ∀ k, k < N → (∃ v, w.cell? ⟨g, k, none⟩ = some v) ∧ w.frozen? ⟨g, k, none⟩ = false
theorem Slab.keep {w w' : World} {g N : Nat} (h : Slab w g N) (r : Grew w w') : Slab w' g N :=
  ⟨Nat.lt_of_lt_of_le h.1 r.size, fun k hk => by
    obtain ⟨⟨v, hv⟩, hf⟩ := h.2 k hk
    exact ⟨⟨v, (grew_cell r (p := ⟨g, k, none⟩) h.1).trans hv⟩, (Below.frozen r (p := ⟨g, k, none⟩) h.1).trans hf⟩⟩
theorem Slab.set {w : World} {g N : Nat} (h : Slab w g N) (b k : Nat) (x : Value) : Slab (w.setCell ⟨b, k, none⟩ x) g N :=
  ⟨by simpa [World.setCell] using h.1, fun i hi => by
    obtain ⟨⟨v, hv⟩, hf⟩ := h.2 i hi
    refine ⟨?_, by rw [World.frozen?_setCell]; exact hf⟩
    by_cases e : (⟨b, k, none⟩ : Addr) = ⟨g, i, none⟩
    · rw [e]; exact ⟨x, World.cell?_setCell_same _ _ _ hv⟩
    · exact ⟨v, by rw [World.cell?_setCell_other _ _ _ _ e]; exact hv⟩⟩
theorem flat_set {α : Type} (E : En α) : ∀ (l : List α) (j i : Nat) (u : Value) (x : α) (h : j < l.length) (hi : i < E.size), E.cs x = (E.cs l[j]).set i u → (l.flatMap E.cs).set (j * E.size + i) u = (l.set j x).flatMap E.cs
  | [], j, i, u, x, h, hi, hx => by simp at h
  | y :: l, 0, i, u, x, h, hi, hx => by
    rw [List.set_cons_zero, List.flatMap_cons, List.flatMap_cons, Nat.zero_mul, Nat.zero_add, List.set_append_left _ _ (by rw [E.len]; exact hi), hx]
    rfl
  | y :: l, j + 1, i, u, x, h, hi, hx => by
    rw [List.set_cons_succ, List.flatMap_cons, List.flatMap_cons, List.set_append_right _ _ (by rw [E.len, Nat.succ_mul]; omega), E.len, show (j + 1) * E.size + i - E.size = j * E.size + i by rw [Nat.succ_mul]; omega, flat_set E l j i u x (by simpa using h) hi hx]
/-- One cell of an element. -/
theorem OwnE.put1 {α : Type} {E : En α} {w : World} {base : Nat} {t : TypeId} {g n c : Nat} {l : List α} (h : OwnE E w base t (.slice (some ⟨g, 0, none⟩) n c) l) (hn : n = l.length) (j i : Nat) (u : Value) (x : α) (hj : j < l.length) (hi : i < E.size) (hx : E.cs x = (E.cs l[j]).set i u) :
    OwnE E (w.setCell ⟨g, j * E.size + i, none⟩ u) base t (.slice (some ⟨g, 0, none⟩) n c) (l.set j x) := by
  subst hn
  have h2 := (World.ownsRow.stored h (j * E.size + i) u).1
  unfold OwnE
  rw [List.length_set, ← flat_set E l j i u x hj hi hx]
  exact h2
theorem OwnE.at0 {α : Type} {E : En α} {w : World} {base : Nat} {t : TypeId} {A : Option Addr} {n c : Nat} {l : List α} (h : OwnE E w base t (.slice A n c) l) (h0 : 0 < l.length) :
    ∃ g, A = some ⟨g, 0, none⟩ ∧ base ≤ g ∧ g < w.heap.size ∧ (∀ k, w.frozen? ⟨g, k, none⟩ = false) ∧ ∀ j (hj : j < l.length), ∀ i, i < E.size → w.cell? ⟨g, j * E.size + i, none⟩ = (E.cs l[j])[i]? := by
  have h' := h
  obtain ⟨hl, h⟩ := h
  rcases h with ⟨_, h1⟩ | ⟨g, cap, cur, e, hb, hh, hc, hm, hs, ht⟩
  · omega
  · cases e
    refine ⟨g, rfl, hb, ?_, fun k => ?_, fun j hj i hi => ?_⟩
    · rcases Nat.lt_or_ge g w.heap.size with h1 | h1
      · exact h1
      · rw [Array.getElem?_eq_none h1] at hh; cases hh
    · exact World.ownsRow.frozenAt h' k
    · have hlt : j * E.size + i < l.length * E.size := by
        have : (j + 1) * E.size ≤ l.length * E.size := Nat.mul_le_mul_right _ hj
        rw [Nat.succ_mul] at this; omega
      rw [World.ownsRow.cellAt h' _ hlt, E.flat_at l j hj i hi]

/-! ### what has been mapped so far -/
def preL {α : Type} (f : α → α) (l : List α) (j : Nat) : List α := (l.take j).map f ++ l.drop j
theorem pre_len {α : Type} (f : α → α) (l : List α) (j : Nat) : (preL f l j).length = l.length := by unfold preL; simp; omega
theorem pre_zero {α : Type} (f : α → α) (l : List α) : preL f l 0 = l := by simp [preL]
theorem pre_all {α : Type} (f : α → α) (l : List α) (j : Nat) (h : l.length ≤ j) : preL f l j = l.map f := by unfold preL; rw [List.take_of_length_le h, List.drop_eq_nil_of_le h, List.append_nil]
theorem pre_get {α : Type} (f : α → α) (l : List α) (j : Nat) (h : j < l.length) : (preL f l j)[j]'(by rw [pre_len]; exact h) = l[j] := by
  have hl : ((l.take j).map f).length = j := by simp; omega
  have e : (preL f l j)[j]? = l[j]? := by
    unfold preL
    rw [List.getElem?_append_right (by omega), hl, Nat.sub_self, List.getElem?_drop, Nat.add_zero]
  rw [List.getElem?_eq_getElem (by rw [pre_len]; exact h), List.getElem?_eq_getElem h] at e
  exact Option.some.inj e
theorem pre_set {α : Type} (f : α → α) (l : List α) (j : Nat) (h : j < l.length) : (preL f l j).set j (f l[j]) = preL f l (j + 1) := by
  have hl : ((l.take j).map f).length = j := by simp; omega
  unfold preL
  rw [List.set_append_right _ _ (by omega), hl, Nat.sub_self, List.take_succ_eq_append_getElem h, List.map_append, List.append_assoc, List.drop_eq_getElem_cons h]
  rfl
end Go.Proofs.YtahioajpmlochaaGreat.NumK
namespace Go.Proofs.YtahioajpmlochaaGreat.NumK
open Go.RowKit
set_option linter.unusedVariables false

set_option maxRecDepth 100000 in
set_option maxHeartbeats 2000000 in
theorem bcmp_any (long : Bool) (N : Nat) (x y : B5) (w : World) (hN : w.cell? ⟨N, 0, none⟩ = some (.bool long)) (hl : N < w.heap.size) :
    Calls Tryz.prog 75 #[vBd x, vBd y, .pointer (some ⟨N, 0, none⟩)] w fun e w' => e = .returned (.int .i64 (cmpB long x y)) ∧ Grew w w' := by
  obtain ⟨x1, x2, x3, x4, x5⟩ := x
  obtain ⟨y1, y2, y3, y4, y5⟩ := y
  have HV : Hid (cmpB long (x1, x2, x3, x4, x5) (y1, y2, y3, y4, y5) = orI (if long then -cmpI x5 y5 else cmpI x5 y5) (cmpI x3 y3)) := rfl
  have C1 := fun w => compare_any x5 y5 w
  have C2 := fun w => compare_any x3 y3 w
  have hb : -1 ≤ cmpI x5 y5 ∧ cmpI x5 y5 ≤ 1 := by unfold cmpI; repeat' split <;> omega
  generalize cmpB long (x1, x2, x3, x4, x5) (y1, y2, y3, y4, y5) = V at *
  generalize cmpI x5 y5 = R1 at *
  generalize cmpI x3 y3 = R2 at *
  have C3 := fun (w : World) (R : Int) => or_any (some ⟨w.heap.size, 0, none⟩) 2 R R2 (w.alloc (.cells #[.int .i64 R, .int .i64 R2] 3)) (ints2' w R R2 _ _ rfl)
  obtain ⟨hb1, hb2⟩ := hb
  have e1 : IntKind.i64.wrap (-R1) = -R1 := by rw [IntKind.wrap_i64]; omega
  dsimp only [vBd]
  have HX : Hid (OwnC ((w.alloc (.cells #[.int .i64 x1, .int .i64 x2, .int .i64 x3, .int .i64 x4, .int .i64 x5] 65)).alloc (.cells #[.int .i64 y1, .int .i64 y2, .int .i64 y3, .int .i64 y4, .int .i64 y5] 65)) w.heap.size [.int .i64 x1, .int .i64 x2, .int .i64 x3, .int .i64 x4, .int .i64 x5]) := (OwnC.new w [.int .i64 x1, .int .i64 x2, .int .i64 x3, .int .i64 x4, .int .i64 x5] _ _ rfl).keep (grew_alloc _ _ _)
  have HY : Hid (OwnC ((w.alloc (.cells #[.int .i64 x1, .int .i64 x2, .int .i64 x3, .int .i64 x4, .int .i64 x5] 65)).alloc (.cells #[.int .i64 y1, .int .i64 y2, .int .i64 y3, .int .i64 y4, .int .i64 y5] 65)) (w.heap.size + 1) [.int .i64 y1, .int .i64 y2, .int .i64 y3, .int .i64 y4, .int .i64 y5]) := OwnC.new _ [.int .i64 y1, .int .i64 y2, .int .i64 y3, .int .i64 y4, .int .i64 y5] _ _ (by simp)
  have HG : Hid (Grew w ((w.alloc (.cells #[.int .i64 x1, .int .i64 x2, .int .i64 x3, .int .i64 x4, .int .i64 x5] 65)).alloc (.cells #[.int .i64 y1, .int .i64 y2, .int .i64 y3, .int .i64 y4, .int .i64 y5] 65))) := grew_trans (grew_alloc _ _ _) (grew_alloc _ _ _)
  have hL : ((w.alloc (.cells #[.int .i64 x1, .int .i64 x2, .int .i64 x3, .int .i64 x4, .int .i64 x5] 65)).alloc (.cells #[.int .i64 y1, .int .i64 y2, .int .i64 y3, .int .i64 y4, .int .i64 y5] 65)).cell? ⟨N, 0, none⟩ = some (.bool long) := (grew_cell HG.out (p := ⟨N, 0, none⟩) hl).trans hN
  clear hN
  go_enter Tryz.func75, Tryz.ntmps75
  go_upto_region 1 with (fail)
  generalize ((w.alloc (.cells #[.int .i64 x1, .int .i64 x2, .int .i64 x3, .int .i64 x4, .int .i64 x5] 65)).alloc (.cells #[.int .i64 y1, .int .i64 y2, .int .i64 y3, .int .i64 y4, .int .i64 y5] 65)) = w0 at *
  generalize w.heap.size + 1 = N1 at *
  have a1 : w0.cell? ⟨w.heap.size, 4, none⟩ = some (.int .i64 x5) := HX.out.at 4 _ rfl
  have a2 : w0.cell? ⟨w.heap.size, 2, none⟩ = some (.int .i64 x3) := HX.out.at 2 _ rfl
  have a3 : w0.cell? ⟨N1, 4, none⟩ = some (.int .i64 y5) := HY.out.at 4 _ rfl
  have a4 : w0.cell? ⟨N1, 2, none⟩ = some (.int .i64 y3) := HY.out.at 2 _ rfl
  generalize w.heap.size = N0 at *
  clear HX HY
  cases long
  · have HF : Hid (V = orI R1 R2) := HV.out
    clear HV
    have C3 := fun w => C3 w R1
    rw [← HF.out] at C3
    clear HF
    go_wp2_with (first
      | (go_at_call 76; ((with_reducible refine (C1 _).mono ?_); rintro e w1 ⟨rfl, rfl⟩))
      | (go_at_call 76; ((with_reducible refine (C2 _).mono ?_); rintro e w1 ⟨rfl, rfl⟩))
      | (go_at_call 77; ((with_reducible refine (C3 _).mono ?_); rintro e w1 ⟨rfl, rfl⟩)))
    go_ret
    exact ⟨rfl, grew_trans HG.out (grew_alloc _ _ _)⟩
  · have HF : Hid (V = orI (-R1) R2) := HV.out
    clear HV
    have C3 := fun w => C3 w (-R1)
    rw [← HF.out] at C3
    clear HF
    go_wp2_with (first
      | (go_at_call 76; ((with_reducible refine (C1 _).mono ?_); rintro e w1 ⟨rfl, rfl⟩))
      | (go_at_call 76; ((with_reducible refine (C2 _).mono ?_); rintro e w1 ⟨rfl, rfl⟩))
      | (go_at_call 77; ((with_reducible refine (C3 _).mono ?_); rintro e w1 ⟨rfl, rfl⟩)))
    go_ret
    exact ⟨rfl, grew_trans HG.out (grew_alloc _ _ _)⟩

end Go.Proofs.YtahioajpmlochaaGreat.NumK
namespace Go.Proofs.YtahioajpmlochaaGreat.NumK
open Go.RowKit
set_option linter.unusedVariables false

theorem growBd0_any (w : World) : Calls Tryz.prog 94 #[.slice none 0 0, .int .i64 ((0 : Nat) : Int)] w fun e w' => ∃ v, e = .returned v ∧ OwnE enB5 w' w.heap.size 65 v [] ∧ Grew w w' := by
  go_enter Tryz.func94, Tryz.ntmps94
  go_wp2
  go_ret
  exact ⟨_, rfl, OwnE.nil _ _ _ _, grew_refl _⟩
theorem growBd1_any (n : Nat) (w : World) (h0 : 0 < n) (hn : n ≤ 1000000) :
    Calls Tryz.prog 94 #[.slice none 0 0, .int .i64 n] w fun e w' => ∃ v, e = .returned v ∧ OwnE enB5 w' w.heap.size 65 v [] ∧ Grew w w' := by
  obtain ⟨i0, hi0, hz0, hs0, hb0⟩ := info_parts info_bd
  have h2 : wrap64 ((0 : Int) - (0 : Int)) = 0 := by unfold wrap64; omega
  have h3 : wrap64 ((n : Int) - 0) = (n : Int) := by unfold wrap64; omega
  have h4 : (n : Int) > 0 := by omega
  have h1 : ¬ ((n : Int) < 0) := by omega
  have hrz : ∀ ty, (Builtin.append_ #[90, 3] ty #[.slice none 0 0, .int .i64 (n : Int)]).run Tryz.prog w =
      .ok (.slice (some ⟨w.heap.size, 0, none⟩) (0 + n) (grownCap w (0 + n) 0 65)) (w.drew.alloc (.cells (([] : List Value).toArray ++ Builtin.zeroCells (vBd bi0).cells n ++ Builtin.zeroCells (vBd bi0).cells (grownCap w (0 + n) 0 65 - (0 + n))) 65)) := fun ty =>
    Lib.run_append_grow_zeros w 90 3 ty 65 i0 (vBd bi0) .i64 .i64 Tryz.underlying90 Tryz.underlying3 hi0 hz0 none 0 0 [] (run_firstCells_none w.drew i0.size 0 0 0) n h0 (by rw [hs0]; decide) (by omega) (by omega) (by rw [hb0]; omega)
      (growslice_fits (by omega) (by rw [hb0]; omega))
  have hGn : n ≤ grownCap w (0 + n) 0 65 := by have := grownCap_ge w (0 + n) 0 65; omega
  have hGm : grownCap w (0 + n) 0 65 ≤ maxLen := grownCap_le_maxLen w (0 + n) 0 65 (by unfold maxLen; omega)
  have hzl : (Builtin.zeroCells (vBd bi0).cells n).size = n * 5 := by simp [Builtin.zeroCells, Value.cells]
  rw [Nat.zero_add] at *
  generalize hG : grownCap w n 0 65 = G at *
  clear hG
  have hzm : (Builtin.zeroCells (vBd bi0).cells (G - n)).size = (G - n) * 5 := by simp [Builtin.zeroCells, Value.cells]
  have HP : Hid (OwnE enB5 (w.drew.alloc (.cells (([] : List Value).toArray ++ Builtin.zeroCells (vBd bi0).cells n ++ Builtin.zeroCells (vBd bi0).cells (G - n)) 65)) w.heap.size 65 (.slice (some ⟨w.heap.size, 0, none⟩) 0 G) []) :=
    ⟨by simp, .inr ⟨w.heap.size, G, _, rfl, Nat.le_refl _, heap_alloc_new w.drew _, by simp, hGm, by simp only [List.size_toArray, Array.size_append, List.length_nil, hzl, hzm]; show _ = G * 5; omega, by simp⟩⟩
  have HB : Hid (Grew w (w.drew.alloc (.cells (([] : List Value).toArray ++ Builtin.zeroCells (vBd bi0).cells n ++ Builtin.zeroCells (vBd bi0).cells (G - n)) 65))) := grew_trans (grew_drew (grew_refl w)) (grew_alloc _ _ _)
  clear hzl hzm hi0 hz0 hs0 hb0
  generalize w.drew.alloc (.cells (([] : List Value).toArray ++ Builtin.zeroCells (vBd bi0).cells n ++ Builtin.zeroCells (vBd bi0).cells (G - n)) 65) = w9 at *
  unfold maxLen at hGm
  go_enter Tryz.func94, Tryz.ntmps94
  go_wp2_with (at_builtin; refine Lib.wpList_append_run _ rfl _ _ _ _ rfl _ _ rfl rfl _ _ (hrz _) ?_)
  go_ret
  exact ⟨_, rfl, HP.out, HB.out⟩
theorem growBd_any (n : Nat) (w : World) (hn : n ≤ 1000000) :
    Calls Tryz.prog 94 #[.slice none 0 0, .int .i64 n] w fun e w' => ∃ v, e = .returned v ∧ OwnE enB5 w' w.heap.size 65 v [] ∧ Grew w w' := by
  rcases Nat.eq_zero_or_pos n with h | h
  · subst h; exact growBd0_any w
  · exact growBd1_any n w h hn

set_option maxRecDepth 100000 in
set_option maxHeartbeats 2000000 in
theorem concatBd_any (B : Nat) (A1 : Option Addr) (n1 c1 : Nat) (l1 : List B5) (w : World) (hB : OwnC w B [.slice A1 n1 c1]) (h1 : RowE enB5 w A1 n1 l1) (k1 : A1 = none → c1 = 0) (hn : n1 ≤ 100000) :
    Calls Tryz.prog 73 #[.slice (some ⟨B, 0, none⟩) 1 1] w fun e w' => ∃ v, e = .returned v ∧ OwnE enB5 w' w.heap.size 65 v l1 ∧ Grew w w' := by
  have HB := Lib.hid hB
  have H1 := Lib.hid h1
  have K1 := Lib.hid k1
  have L1 := Lib.hid h1.len
  clear hB h1 k1
  go_enter Tryz.func73, Tryz.ntmps73
  go_wp2
  go_loop [3, 5, 11] (fun v3 v5 v11 => ∃ j s : Nat, v11 = .int .i64 j ∧ v3 = .int .i64 s ∧ j ≤ 1 ∧ Hid ((j = 0 ∧ s = 0) ∨ (j = 1 ∧ s = n1))) (fun _ _ v11 => 1 - (intOf v11).toNat)
  case atStart => exact ⟨0, 0, rfl, rfl, by omega, Or.inl ⟨rfl, rfl⟩⟩
  case round =>
    obtain ⟨j, s, rfl, rfl, hj, HS⟩ := hrel
    rcases HS.out with ⟨rfl, rfl⟩ | ⟨rfl, rfl⟩
    · have b0 : w.cell? ⟨B, 0, none⟩ = some (.slice A1 n1 c1) := HB.out.at 0 _ rfl
      have e1 : IntKind.i64.wrap (n1 : Int) = n1 := by rw [IntKind.wrap_i64]; omega
      have e2 : ¬ ((n1 : Int) < 0) := by omega
      clear HS hj
      go_wp2
      go_round
      case rel => exact ⟨1, n1, by go_num, by go_num, by omega, Or.inr ⟨rfl, rfl⟩⟩
      case measure => simp only [intOf]; omega
    · have CG := fun w => growBd_any s w (by omega)
      clear HS hj
      go_wp2_with (go_at_call 94; ((with_reducible refine (CG _).mono ?_); rintro e w5 ⟨v, rfl, ho, hg⟩; have HO := Lib.hid ho; have HG5 := Lib.hid hg; clear ho hg CG))
      go_loopw [6, 8, 27] (fun v6 v8 v27 wr => ∃ j : Nat, v27 = .int .i64 j ∧ j ≤ 1 ∧ Hid ((j = 0 ∧ OwnE enB5 wr w.heap.size 65 v6 []) ∨ (j = 1 ∧ OwnE enB5 wr w.heap.size 65 v6 l1)) ∧ Hid (Grew w wr)) (fun _ _ v27 _ => 1 - (intOf v27).toNat)
      case atStart => exact ⟨0, rfl, by omega, Or.inl ⟨rfl, HO.out⟩, HG5.out⟩
      case round =>
        obtain ⟨j, rfl, hj, HS, HG⟩ := hrel
        rcases HS.out with ⟨rfl, ho⟩ | ⟨rfl, ho⟩
        · have b0 : wr.cell? ⟨B, 0, none⟩ = some (.slice A1 s c1) := (HB.out.keep HG.out).at 0 _ rfl
          have HV := Lib.hid ho
          have HZ : Hid (w.heap.size ≤ wr.heap.size) := HG.out.size
          clear HS hj HO ho
          go_wp2_with (at_builtin; refine (wpList_append_E rfl _ _ 90 65 (vBd bi0) 40 rfl Tryz.underlying90 info_bd rfl w.heap.size _ [] rfl HV.out A1 s c1 l1 rfl K1.out (H1.out.keep HG.out) (by simp; unfold maxLen; omega) (by simp; omega) HZ.out ?_); intro v' w' ho hb; rw [List.nil_append] at ho; have HP := Lib.hid ho; have HB2 : Hid (Grew w w') := Below.trans HG.out hb; clear ho hb)
          go_roundw
          case rel => exact ⟨1, by go_num, by omega, Or.inr ⟨rfl, HP.out⟩, HB2.out⟩
          case measure => simp only [intOf]; omega
        · have HP := Lib.hid ho
          clear HS hj HO ho
          go_wp2
          go_ret
          exact ⟨_, rfl, HP.out, HG.out⟩
end Go.Proofs.YtahioajpmlochaaGreat.NumK
namespace Go.Proofs.YtahioajpmlochaaGreat.NumK
open Go.RowKit

set_option maxRecDepth 100000 in
set_option maxHeartbeats 4000000 in
theorem symAB_any {L : Nat → B5} (g : Nat) (cb : Array Value) (cf : B5 → B5 → Int) (f : Nat → Int) (blk n cap a b : Nat) (d : Nat → Nat) (w0 w : World) (eg : ∀ args w, (callFunc g args).run Tryz.prog w = .ok (.enter g args) w)
    (hC : CmpB L g cb cf f blk n w0) (hT : Turn blk w0 w) (hR : RowBd L w blk n d) (hd : ∀ k, k < n → d k < n) (hs2 : Sd f (a + 1) b d) (hx : Xs a (a + 1) b d) (hmb : a + 1 < b) (hb : b ≤ n) (hn : n ≤ 1000000) :
    Calls Tryz.prog 107 #[.slice (some ⟨blk, 0, none⟩) n cap, .int .i64 a, .int .i64 ((a : Int) + 1), .int .i64 b, .func (.func g) #[] cb] w (SortPostB L f blk n a b d w0) := by
  have HR := Lib.hid hR
  have HC := Lib.hid hC
  have HT := Lib.hid hT
  have HD := Lib.hid hd
  have HS := Lib.hid hs2
  have HX := Lib.hid hx
  clear hR hC hT hd hs2 hx
  have e1 : (((a : Int) + 1 - (a : Int)) == 1) = true := by simp; omega
  go_enter Tryz.func107, Tryz.ntmps107
  go_wp2
  clear e1
  go_loopw [10, 11] (fun vi vj wr => ∃ (i j : Nat), vi = .int .i64 i ∧ vj = .int .i64 j ∧ a + 1 ≤ i ∧ i ≤ j ∧ j ≤ b ∧ Bef f d a (a + 1) i ∧ Nbf f d a j b ∧ Hid (RowBd L wr blk n d) ∧ Hid (Turn blk w0 wr)) (fun vi vj _ => (intOf vj).toNat - (intOf vi).toNat)
  case atStart => exact ⟨a + 1, b, by go_num, rfl, by omega, by omega, by omega, fun k h1 h2 => by omega, fun k h1 h2 => by omega, HR, HT⟩
  case round =>
    clear HR HT
    obtain ⟨i, j, rfl, rfl, hi, hij, hj, HL, HG, HR, HT⟩ := hrel
    by_cases hlt : i < j
    · obtain ⟨h, hh⟩ : ∃ h, h = (i + j) / 2 := ⟨_, rfl⟩
      have h1 : i ≤ h := by omega
      have h2 : h < j := by omega
      have h3 : h < n := by omega
      have h4 : (h : Int) < (n : Int) := by omega
      have h5 : a < n := by omega
      have h6 : (a : Int) < (n : Int) := by omega
      have h7 : (0 : Int) ≤ (h : Int) := by omega
      have h8 : (0 : Int) ≤ (a : Int) := by omega
      have hq : ((i : Int) + (j : Int)) / 2 = (h : Int) := by omega
      have c1 := rowB_all HR.out (k := h) (by omega)
      have c2 := rowB_all HR.out (k := a) (by omega)
      have hc := HC.out.all HT.out (d h) (d a) (HD.out _ (by omega)) (HD.out _ (by omega))
      have hv := Lib.hid (HC.out.lt (d h) (d a) (HD.out _ (by omega)) (HD.out _ (by omega)))
      obtain ⟨x, hx⟩ : ∃ x, x = d h := ⟨_, rfl⟩
      obtain ⟨y, hy⟩ : ∃ y, y = d a := ⟨_, rfl⟩
      rw [← hx] at c1
      rw [← hy] at c2
      rw [← hx, ← hy] at hc hv
      have HX1 := Lib.hid hx
      have HY1 := Lib.hid hy
      have HH := Lib.hid hh
      clear hx hy hh
      generalize cf (L x) (L y) = c at hc hv
      generalize L x = X at c1 c2 hc
      generalize L y = Y at c1 c2 hc
      obtain ⟨X1, X2, X3, X4, X5⟩ := X
      obtain ⟨Y1, Y2, Y3, Y4, Y5⟩ := Y
      dsimp only [vBd] at hc
      have c11 : ∀ p : GrewTo wr, p.to.cell? ⟨blk, h * 5, none⟩ = some (.int .i64 X1) := fun p => (c1 p).1
      have c12 : ∀ p : GrewTo wr, p.to.cell? ⟨blk, h * 5 + 1, none⟩ = some (.int .i64 X2) := fun p => (c1 p).2.1
      have c13 : ∀ p : GrewTo wr, p.to.cell? ⟨blk, h * 5 + 2, none⟩ = some (.int .i64 X3) := fun p => (c1 p).2.2.1
      have c14 : ∀ p : GrewTo wr, p.to.cell? ⟨blk, h * 5 + 3, none⟩ = some (.int .i64 X4) := fun p => (c1 p).2.2.2.1
      have c15 : ∀ p : GrewTo wr, p.to.cell? ⟨blk, h * 5 + 4, none⟩ = some (.int .i64 X5) := fun p => (c1 p).2.2.2.2
      have c21 : ∀ p : GrewTo wr, p.to.cell? ⟨blk, a * 5, none⟩ = some (.int .i64 Y1) := fun p => (c2 p).1
      have c22 : ∀ p : GrewTo wr, p.to.cell? ⟨blk, a * 5 + 1, none⟩ = some (.int .i64 Y2) := fun p => (c2 p).2.1
      have c23 : ∀ p : GrewTo wr, p.to.cell? ⟨blk, a * 5 + 2, none⟩ = some (.int .i64 Y3) := fun p => (c2 p).2.2.1
      have c24 : ∀ p : GrewTo wr, p.to.cell? ⟨blk, a * 5 + 3, none⟩ = some (.int .i64 Y4) := fun p => (c2 p).2.2.2.1
      have c25 : ∀ p : GrewTo wr, p.to.cell? ⟨blk, a * 5 + 4, none⟩ = some (.int .i64 Y5) := fun p => (c2 p).2.2.2.2
      clear c1 c2
      by_cases hl : c < 0
      · have hcd : decide (c < 0) = true := decide_eq_true hl
        go_wp2_with fail
        refine wp_region_grew (by kernel_rfl) (by kernel_rfl) ?_
        repeat (go_big_quiet_step (exact calls_grew (hc _)))
        refine wpQuiet_nil ?_
        intro w2 hw'
        have hg := grew_of hw'
        clear hw'
        have HR2 : Hid (RowBd L w2 blk n d) := HR.out.keep hg
        have HT2 : Hid (Turn blk w0 w2) := HT.out.grew hg
        clear c11 c12 c13 c14 c15 c21 c22 c23 c24 c25 hc HR HT hg hcd hq
        have HL2 : Bef f d a (a + 1) (h + 1) := by
          intro k k1 k2
          have hf : f (d a) < f (d h) := by rw [← HX1.out, ← HY1.out]; exact hv.out.1 hl
          by_cases c : k = h
          · rw [c]; exact hf
          · have := HS.out k h k1 (by omega) (by omega)
            unfold Ah at this; omega
        clear hv hl
        go_wp2
        go_roundw
        case rel => exact ⟨h + 1, j, by go_num, rfl, by omega, by omega, by omega, HL2, HG, HR2, HT2⟩
        case measure => simp only [intOf]; omega
      · have hcd : decide (c < 0) = false := decide_eq_false hl
        go_wp2_with fail
        refine wp_region_grew (by kernel_rfl) (by kernel_rfl) ?_
        repeat (go_big_quiet_step (exact calls_grew (hc _)))
        refine wpQuiet_nil ?_
        intro w2 hw'
        have hg := grew_of hw'
        clear hw'
        have HR2 : Hid (RowBd L w2 blk n d) := HR.out.keep hg
        have HT2 : Hid (Turn blk w0 w2) := HT.out.grew hg
        clear c11 c12 c13 c14 c15 c21 c22 c23 c24 c25 hc HR HT hg hcd hq
        have HG2 : Nbf f d a h b := by
          intro k k1 k2
          have hf : ¬ f (d a) < f (d h) := by rw [← HX1.out, ← HY1.out]; intro h9; have := hv.out.2 h9; omega
          by_cases c : k = h
          · rw [c]; exact hf
          · have := HS.out h k (by omega) (by omega) k2
            unfold Ah at this; omega
        clear hv hl
        go_wp2
        go_roundw
        case rel => exact ⟨i, h, rfl, rfl, by omega, by omega, by omega, HL, HG2, HR2, HT2⟩
        case measure => simp only [intOf]; omega
    · obtain rfl : i = j := by omega
      have HF : Hid (Sd f a b (shU d a (i - 1))) := shU_sorted HS.out HX.out (by omega) (by omega) HL HG
      have HM : Hid (Moves a b d (shU d a (i - 1))) := shU_moves d a (i - 1) b (by omega) (by omega)
      have HR2 : Hid (RowBd L wr blk n (shU d a a)) := by rw [shU_zero]; exact HR
      clear HL HG HR
      go_wp2
      go_loopw [13] (fun vk wr => ∃ (k : Nat), vk = .int .i64 k ∧ a ≤ k ∧ k ≤ i - 1 ∧ Hid (RowBd L wr blk n (shU d a k)) ∧ Hid (Turn blk w0 wr)) (fun vk _ => i - (intOf vk).toNat)
      case atStart => exact ⟨a, rfl, by omega, by omega, HR2, HT⟩
      case round =>
        clear HR2 HT
        obtain ⟨k, rfl, hk1, hk2, HR, HT⟩ := hrel
        by_cases hlt : k < i - 1
        · have HN := Lib.hid (shU_succ d a k hk1)
          generalize shU d a k = e at *
          have k1 : (k : Int) < (i : Int) - 1 := by omega
          have k2 : (k : Int) + 1 < (n : Int) := by omega
          have k3 : (k : Int) < (n : Int) := by omega
          have k4 : (0 : Int) ≤ (k : Int) := by omega
          have k5 : (0 : Int) ≤ (k : Int) + 1 := by omega
          have k6 : IntKind.i64.wrap ((k : Int) + 1) = (k : Int) + 1 := by rw [IntKind.wrap_i64]; omega
          have c1 := rowB_cells HR.out (k := k) (by omega)
          have c2 := rowB_cells HR.out (k := k + 1) (by omega)
          have f1 := rowB_froz HR.out (k := k) (by omega)
          have f2 := rowB_froz HR.out (k := k + 1) (by omega)
          have c3 := rowB_two HR.out (k) (k + 1) (by omega) (by omega) (L (e (k + 1)))
          have HSW : Hid (RowBd L (put5 (put5 wr blk ((k) * 5) (L (e (k + 1)))) blk ((k + 1) * 5) (L (e (k)))).drew blk n (sw e (k) (k + 1))) := rowB_swap HR.out (k) (k + 1) (by omega) (by omega) (by omega)
          have HTW : Hid (Turn blk w0 (put5 (put5 wr blk ((k) * 5) (L (e (k + 1)))) blk ((k + 1) * 5) (L (e (k)))).drew) := turn_put25 HT.out _ _ _ _
          clear HR HT
          generalize L (e (k)) = x at c1 HSW HTW
          generalize L (e (k + 1)) = y at c2 c3 HSW HTW
          obtain ⟨x1, x2, x3, x4, x5⟩ := x
          obtain ⟨y1, y2, y3, y4, y5⟩ := y
          simp only [put5] at c3 HSW HTW
          obtain ⟨c11, c12, c13, c14, c15⟩ := c1
          obtain ⟨c21, c22, c23, c24, c25⟩ := c2
          obtain ⟨c31, c32, c33, c34, c35⟩ := c3
          obtain ⟨f11, f12, f13, f14, f15⟩ := f1
          obtain ⟨f21, f22, f23, f24, f25⟩ := f2
          dsimp only at c11 c12 c13 c14 c15 c21 c22 c23 c24 c25 c31 c32 c33 c34 c35
          go_wp2_with fail
          go_big_region
          clear c11 c12 c13 c14 c15 c21 c22 c23 c24 c25 c31 c32 c33 c34 c35 f11 f12 f13 f14 f15 f21 f22 f23 f24 f25
          generalize (World.drew (World.setCell (World.setCell (World.setCell (World.setCell (World.setCell (World.setCell (World.setCell (World.setCell (World.setCell (World.setCell wr ⟨blk, k * 5, none⟩ (.int .i64 y1)) ⟨blk, k * 5 + 1, none⟩ (.int .i64 y2)) ⟨blk, k * 5 + 2, none⟩ (.int .i64 y3)) ⟨blk, k * 5 + 3, none⟩ (.int .i64 y4)) ⟨blk, k * 5 + 4, none⟩ (.int .i64 y5)) ⟨blk, (k + 1) * 5, none⟩ (.int .i64 x1)) ⟨blk, (k + 1) * 5 + 1, none⟩ (.int .i64 x2)) ⟨blk, (k + 1) * 5 + 2, none⟩ (.int .i64 x3)) ⟨blk, (k + 1) * 5 + 3, none⟩ (.int .i64 x4)) ⟨blk, (k + 1) * 5 + 4, none⟩ (.int .i64 x5))) = w3 at HSW HTW ⊢
          go_wp2
          go_roundw
          case rel => exact ⟨k + 1, by go_num, by omega, by omega, by rw [← HN.out]; exact HSW, HTW⟩
          case measure => simp only [intOf]; omega
        · obtain rfl : k = i - 1 := by omega
          go_wp2
          go_end0
          exact ⟨rfl, _, HM.out, HF.out, HR.out, HT.out⟩
end Go.Proofs.YtahioajpmlochaaGreat.NumK
