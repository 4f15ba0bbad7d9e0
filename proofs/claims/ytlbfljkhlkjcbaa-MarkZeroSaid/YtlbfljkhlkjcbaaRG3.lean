/- Rows that a call owns: what their values are, where they lie. -/
import Derived.Test.YtlbfljkhlkjcbaaRG2
import Derived.Deep.AppendLies
import Derived.Test.YtlbfljkhlkjcbaaRG1
import Derived.Deep.DeepCutAuto
import Derived.Deep.Light
import Derived.Laws.OwnMore
namespace Go.Proofs.Ytlbfljkhlkjcbaa.NumK
open Go.RowKit
set_option linter.unusedVariables false

theorem own_form {α : Type} {E : En α} {w : World} {base : Nat} {t : TypeId} {A : Option Addr} {n c : Nat} {l : List α} (h : OwnE E w base t (.slice A n c) l) : RowE E w A l.length l ∧ (A = none → c = 0) ∧ l.length ≤ c ∧ c ≤ 9223372036854775807 := by
  obtain ⟨A', c', e, hr, hn, h1, h2⟩ := h.form
  cases e
  exact ⟨hr, hn, h1, by unfold maxLen at h2; omega⟩
theorem OwnE.block {α : Type} {E : En α} {w : World} {base : Nat} {t : TypeId} {A : Option Addr} {n c : Nat} {l : List α} (h : OwnE E w base t (.slice A n c) l) : ∀ x, A = some x → base ≤ x.block ∧ x.block < w.heap.size := by
  intro x hx
  subst hx
  exact World.ownsRow.lt h x.block rfl
/-- Not in one block. -/
def Apart (A B : Option Addr) : Prop := ∀ x y, A = some x → B = some y → x.block ≠ y.block
theorem apart_of {A B : Option Addr} {m p q n : Nat} (h1 : ∀ x, A = some x → m ≤ x.block ∧ x.block < p) (h2 : ∀ x, B = some x → q ≤ x.block ∧ x.block < n) (h : p ≤ q) : Apart A B := fun x y hx hy => by
  have := h1 x hx; have := h2 y hy; omega
end Go.Proofs.Ytlbfljkhlkjcbaa.NumK
namespace Go.Proofs.Ytlbfljkhlkjcbaa.NumK
open Go.RowKit
set_option linter.unusedVariables false

structure Two {α β : Type} (E : En α) (F : En β) (w : World) (base : Nat) (s t : TypeId) (va vb : Value) (la : List α) (lb : List β) : Prop where
  a : OwnE E w base s va la
  b : OwnE F w base t vb lb
  ne : ∀ g, va.ownBlock = some g → vb.ownBlock ≠ some g

section
variable {α β : Type} {E : En α} {F : En β} {w w' : World} {base : Nat} {s t : TypeId} {va vb : Value} {la : List α} {lb : List β}
theorem Two.nil (E : En α) (F : En β) (w : World) (base : Nat) (s t : TypeId) : Two E F w base s t (.slice none 0 0) (.slice none 0 0) [] [] := ⟨OwnE.nil _ _ _ _, OwnE.nil _ _ _ _, fun g h => by cases h⟩
theorem Two.keep (h : Two E F w base s t va vb la lb) (g : Grew w w') : Two E F w' base s t va vb la lb := ⟨h.a.keep g, h.b.keep g, h.ne⟩
theorem Two.swap (h : Two E F w base s t va vb la lb) : Two F E w base t s vb va lb la := ⟨h.b, h.a, fun g h1 h2 => h.ne g h2 h1⟩
theorem Two.grown (h : Two E F w base s t va vb la lb) {x : List α} {v' : Value} (ho : OwnE E w' base s v' x) (hg : w.grownBy w' va.ownBlock) (hat : ∀ g, v'.ownBlock = some g → va.ownBlock = some g ∨ g = w.heap.size) : Two E F w' base s t v' vb x lb := by
  refine ⟨ho, World.ownsRow.kept h.b hg ?_, fun g h1 h2 => ?_⟩
  · cases hv : vb.ownBlock with
    | none => exact Or.inl rfl
    | some g => exact Or.inr fun e => h.ne g e.symm hv
  · rcases hat g h1 with h3 | h3
    · exact h.ne g h3 h2
    · have := (World.ownsRow.lt h.b g h2).2
      omega
theorem Two.below (h : Two E F w base s t va vb la lb) (hg : w.grownBy w' va.ownBlock) (hb : base ≤ w.heap.size) : Below base w w' := (Below.refl base w).grown hg hb fun k hk => (World.ownsRow.lt h.a k hk).1

/-- What one element in a block gives an append. -/
theorem news_one {N : Nat} {x : α} (h : RowE E w (some ⟨N, 0, none⟩) 1 [x]) : ∀ j u, (E.cs x)[j]? = some u → w.cell? ((⟨N, 0, none⟩ : Addr).add j) = some u := by
  intro j u hu
  obtain ⟨b, o, he, hb, hc⟩ := h.at (by omega)
  cases he
  have hj : j < E.size := by
    rw [← E.len x]
    rcases Nat.lt_or_ge j (E.cs x).length with h1 | h1
    · exact h1
    · rw [List.getElem?_eq_none h1] at hu; cases hu
  have := hc 0 (by simp) j hj
  rw [addr_add, ← hu]
  simpa using this
end

section
variable {α β : Type} {E : En α} {F : En β} {w : World} {base : Nat} {s t : TypeId} {va vb : Value} {la : List α} {lb : List β} {ops : Array Oper} {rest : List Oper} {o : Oper} {a : Act} {Q : Exit → Act → World → Prop} {K : Act → World → Prop} {X : Prop}
theorem step_two (hgd : o.guard = none) (p q : Operand) (T : TypeId) (z : Value) (by' : Nat)
    (ho : o.op = .call { callee := .builtin .append, args := #[p, q], argTypes := #[T, T] })
    (hT : Try.prog.underlying T = some (.slice s)) (hi : (Try.prog.info? s).map (fun i => (i.zero, i.size, i.bytes)) = some (some z, E.size, by')) (hz : z.cells.size = E.size)
    (h : Two E F w base s t va vb la lb) (hs : a.eval p = va) (N : Nat) (x : α) (hx : a.eval q = .slice (some ⟨N, 0, none⟩) 1 1) (hR : RowE E w (some ⟨N, 0, none⟩) 1 [x])
    (hm : la.length + 1 ≤ maxLen) (hlim : (la.length + 1) * by' ≤ 140737488355328) (hbase : base ≤ w.heap.size)
    (k : ∀ v' w', Two E F w' base s t v' vb (la ++ [x]) lb → Below base w w' → w.grownBy w' va.ownBlock → K (a.put o.dst v') w') : if Region.wanted o (yielded ops a.tmps) = true then Oper.wp Try.prog o a w K Q else X := by
  obtain ⟨i, hi, hz0, hz1, hz2⟩ := info_parts hi
  refine step_append_lies w hgd p q T ho base s i z E.size by' hT hi hz0 hz1 hz2 hz E.pos va la.length _ hs h.a ⟨N, 0, none⟩ 1 1 (E.cs x) hx (by rw [E.len, Nat.one_mul]) (news_one hR) (E.one x) (by omega) hm hlim hbase _ rfl fun g cap w' h2 h3 h4 h5 => k _ w' (h.grown (va := va) ?_ h3 fun g' hg' => ?_) (h.below h3 hbase) h3
  · show w'.ownsRow base s E.size _ (la ++ [x]).length ((la ++ [x]).flatMap E.cs)
    rw [List.length_append, List.flatMap_append]
    simpa using h2
  · have : g = g' := by simpa [Value.ownBlock] using hg'
    subst this
    exact h4
end
/-- A row in another block than the one that was appended to. -/
theorem RowE.grown {α : Type} {E : En α} {w w' : World} {N n : Nat} {l : List α} {row : Option Nat} (h : RowE E w (some ⟨N, 0, none⟩) n l) (g : w.grownBy w' row) (hne : some N ≠ row) : RowE E w' (some ⟨N, 0, none⟩) n l := by
  refine ⟨h.len, fun hn => ?_⟩
  obtain ⟨b, o, e, hb, hc⟩ := h.at hn
  cases e
  exact ⟨N, 0, rfl, Nat.lt_of_lt_of_le hb g.size, fun j hj => ⟨_, rfl, fun i hi => (g.cell_far ⟨N, _, none⟩ hb hne).trans (hc j hj i hi)⟩⟩
theorem Two.far {α β : Type} {E : En α} {F : En β} {w : World} {base : Nat} {s t : TypeId} {va vb : Value} {la : List α} {lb : List β} (h : Two E F w base s t va vb la lb) {N : Nat} (hN : w.heap.size ≤ N) : some N ≠ va.ownBlock ∧ some N ≠ vb.ownBlock :=
  ⟨fun e => by have := (World.ownsRow.lt h.a N e.symm).2; omega, fun e => by have := (World.ownsRow.lt h.b N e.symm).2; omega⟩
/-- One element in a block made now. -/
theorem RowE.one1 {α : Type} (E : En α) (w : World) (x : α) (t : TypeId) (cs : Array Value) (N : Nat) (hN : N = w.heap.size) (hc : cs = (E.cs x).toArray) : RowE E (w.alloc (.cells cs t)) (some ⟨N, 0, none⟩) 1 [x] := by
  subst hN; subst hc
  refine ⟨rfl, fun _ => ⟨_, _, rfl, by simp, fun j hj => ⟨_, rfl, fun i hi => ?_⟩⟩⟩
  have hj : j < 1 := hj
  obtain rfl : j = 0 := by omega
  show World.cell? _ ⟨_, 0 + 0 * E.size + i, none⟩ = _
  rw [Nat.zero_mul, Nat.zero_add, World.cell?_alloc_at _ _ _ _ rfl]
  simp
end Go.Proofs.Ytlbfljkhlkjcbaa.NumK
namespace Go.Proofs.Ytlbfljkhlkjcbaa.NumK
open Go.RowKit
set_option linter.unusedVariables false

structure Fam {κ α : Type} (E : En α) (w : World) (base : Nat) (t : TypeId) (v : κ → Value) (rows : κ → List α) : Prop where
  own : ∀ k, OwnE E w base t (v k) (rows k)
  ne : ∀ k k', k ≠ k' → ∀ g, (v k).ownBlock = some g → (v k').ownBlock ≠ some g

def upd {κ β : Type} [DecidableEq κ] (f : κ → β) (k : κ) (x : β) : κ → β := fun i => if i = k then x else f i
theorem upd_at {κ β : Type} [DecidableEq κ] (f : κ → β) (k : κ) (x : β) : upd f k x k = x := if_pos rfl
theorem upd_ne {κ β : Type} [DecidableEq κ] (f : κ → β) {k i : κ} (x : β) (h : i ≠ k) : upd f k x i = f i := if_neg h

section
variable {κ α : Type} {E : En α} {w w' : World} {base : Nat} {t : TypeId} {v : κ → Value} {rows : κ → List α}
theorem Fam.nil (E : En α) (w : World) (base : Nat) (t : TypeId) : Fam (κ := κ) E w base t (fun _ => .slice none 0 0) (fun _ => []) := ⟨fun _ => OwnE.nil _ _ _ _, fun _ _ _ g h => by cases h⟩
theorem Fam.keep (h : Fam E w base t v rows) (g : Grew w w') : Fam E w' base t v rows := ⟨fun k => (h.own k).keep g, h.ne⟩
theorem Fam.mono {b2 : Nat} (h : Fam E w base t v rows) (hb : b2 ≤ base) : Fam E w b2 t v rows := ⟨fun k => (h.own k).mono hb, h.ne⟩
theorem Fam.congr {r2 : κ → List α} (h : Fam E w base t v rows) (e : ∀ k, rows k = r2 k) : Fam E w base t v r2 := ⟨fun k => e k ▸ h.own k, h.ne⟩
theorem Fam.kept (h : Fam E w base t v rows) {b : Nat} (hg : w.grownBy w' (some b)) (hb : ∀ k, (v k).ownBlock ≠ some b) : Fam E w' base t v rows :=
  ⟨fun k => World.ownsRow.kept (h.own k) hg (Or.inr (hb k)), h.ne⟩
theorem Fam.below (h : Fam E w base t v rows) (k : κ) (hg : w.grownBy w' (v k).ownBlock) (hb : base ≤ w.heap.size) : Below base w w' := (Below.refl base w).grown hg hb fun i hi => (World.ownsRow.lt (h.own k) i hi).1
theorem Fam.lt (h : Fam E w base t v rows) (k : κ) {g : Nat} (hg : (v k).ownBlock = some g) : base ≤ g ∧ g < w.heap.size := World.ownsRow.lt (h.own k) g hg
end
section
variable {κ α : Type} [DecidableEq κ] {E : En α} {w w' : World} {base : Nat} {t : TypeId} {v : κ → Value} {rows : κ → List α}
theorem Fam.grown (h : Fam E w base t v rows) (k : κ) {x : List α} {v' : Value} (ho : OwnE E w' base t v' x) (hg : w.grownBy w' (v k).ownBlock) (hat : ∀ g, v'.ownBlock = some g → (v k).ownBlock = some g ∨ g = w.heap.size) :
    Fam E w' base t (upd v k v') (upd rows k x) := by
  have hk : ∀ i, i ≠ k → ∀ g, v'.ownBlock = some g → (v i).ownBlock ≠ some g := fun i hi g h1 h2 => by
    rcases hat g h1 with h3 | h3
    · exact h.ne i k hi g h2 h3
    · have := (World.ownsRow.lt (h.own i) g h2).2; omega
  refine ⟨fun i => ?_, fun i j hij g h1 h2 => ?_⟩
  · by_cases e : i = k
    · subst e; rw [upd_at, upd_at]; exact ho
    · rw [upd_ne _ _ e, upd_ne _ _ e]
      refine World.ownsRow.kept (h.own i) hg ?_
      cases hv : (v i).ownBlock with
      | none => exact Or.inl rfl
      | some g => exact Or.inr fun e2 => h.ne i k e g hv e2.symm
  · by_cases e1 : i = k
    · subst e1
      rw [upd_at] at h1
      rw [upd_ne _ _ (Ne.symm hij)] at h2
      exact hk j (Ne.symm hij) g h1 h2
    · rw [upd_ne _ _ e1] at h1
      by_cases e2 : j = k
      · subst e2
        rw [upd_at] at h2
        exact hk i e1 g h2 h1
      · rw [upd_ne _ _ e2] at h2
        exact h.ne i j hij g h1 h2
end

section
variable {κ α : Type} [DecidableEq κ] {E : En α} {w : World} {base : Nat} {t : TypeId} {v : κ → Value} {rows : κ → List α} {ops : Array Oper} {rest : List Oper} {o : Oper} {a : Act} {Q : Exit → Act → World → Prop} {K : Act → World → Prop} {X : Prop}
/-- One more in the row of a key: a step of a region that draws. -/
theorem step_fam (key : κ) (hgd : o.guard = none) (p q : Operand) (T : TypeId) (z : Value) (by' : Nat)
    (ho : o.op = .call { callee := .builtin .append, args := #[p, q], argTypes := #[T, T] })
    (hT : Try.prog.underlying T = some (.slice t)) (hi : (Try.prog.info? t).map (fun i => (i.zero, i.size, i.bytes)) = some (some z, E.size, by')) (hz : z.cells.size = E.size)
    (h : Fam E w base t v rows) (hs : a.eval p = v key) (N : Nat) (x : α) (hx : a.eval q = .slice (some ⟨N, 0, none⟩) 1 1) (hR : RowE E w (some ⟨N, 0, none⟩) 1 [x])
    (hm : (rows key).length + 1 ≤ maxLen) (hlim : ((rows key).length + 1) * by' ≤ 140737488355328) (hbase : base ≤ w.heap.size)
    (k : ∀ v' w', Fam E w' base t (upd v key v') (upd rows key (rows key ++ [x])) → Below base w w' → w.grownBy w' (v key).ownBlock → K (a.put o.dst v') w') : if Region.wanted o (yielded ops a.tmps) = true then Oper.wp Try.prog o a w K Q else X := by
  obtain ⟨i, hi, hz0, hz1, hz2⟩ := info_parts hi
  refine step_append_lies w hgd p q T ho base t i z E.size by' hT hi hz0 hz1 hz2 hz E.pos (v key) (rows key).length _ hs (h.own key) ⟨N, 0, none⟩ 1 1 (E.cs x) hx (by rw [E.len, Nat.one_mul]) (news_one hR) (E.one x) (by omega) hm hlim hbase _ rfl fun g cap w' h2 h3 h4 h5 => k _ w' (h.grown key ?_ h3 fun g' hg' => ?_) (h.below key h3 hbase) h3
  · show w'.ownsRow base t E.size _ (rows key ++ [x]).length ((rows key ++ [x]).flatMap E.cs)
    rw [List.length_append, List.flatMap_append]
    simpa using h2
  · have : g = g' := by simpa [Value.ownBlock] using hg'
    subst this
    exact h4
end
/-- A cell of a block that no row of the family lies in. -/
theorem Fam.far {κ α : Type} {E : En α} {w w' : World} {base : Nat} {t : TypeId} {v : κ → Value} {rows : κ → List α} (h : Fam E w base t v rows) {k : κ} (hg : w.grownBy w' (v k).ownBlock) {b : Nat} (hb : b < w.heap.size) (hne : b < base) (i : Nat) :
    w'.cell? ⟨b, i, none⟩ = w.cell? ⟨b, i, none⟩ ∧ w'.frozen? ⟨b, i, none⟩ = w.frozen? ⟨b, i, none⟩ := by
  have hn : some b ≠ (v k).ownBlock := fun e => by have := (World.ownsRow.lt (h.own k) b e.symm).1; omega
  exact ⟨hg.cell_far ⟨b, i, none⟩ hb hn, hg.frozen_far ⟨b, i, none⟩ hb hn⟩
end Go.Proofs.Ytlbfljkhlkjcbaa.NumK
namespace Go.Proofs.Ytlbfljkhlkjcbaa.NumK
open Go.RowKit
set_option linter.unusedVariables false

def enInt : En Int := ⟨1, fun n => [.int .i64 n], fun _ => rfl, fun n v hv => by simp at hv; rw [hv]; rfl, by decide⟩
theorem info_int1 : (Try.prog.info? 3).map (fun i => (i.zero, i.size, i.bytes)) = some (some (.int .i64 0), 1, 8) := by kernel_rfl
theorem ints_of_E {w : World} {A : Option Addr} {n : Nat} {l : List Int} (h : RowE enInt w A n l) : Ints w A n l := by
  refine ⟨h.len, fun hn => ?_⟩
  obtain ⟨b, o, e, hb, hc⟩ := h.at hn
  refine ⟨b, o, e, hb, fun j hj => ?_⟩
  have hj2 : j < l.length := by rw [h.len]; exact hj
  have := hc j hj2 0 (by decide)
  rw [show o + j * enInt.size + 0 = o + j by show o + j * 1 + 0 = _; omega] at this
  rw [this]
  simp [enInt, List.getD, hj2]

end Go.Proofs.Ytlbfljkhlkjcbaa.NumK
namespace Go.Proofs.Ytlbfljkhlkjcbaa.NumK
open Go.RowKit

theorem refRight_any (n : Int) (w : World) :
    Calls Try.prog 35 #[.int .i64 n] w fun e w' => e = .returned (.bool (isMoney n)) ∧ w = w' := by
  by_cases h1 : -4611686018427387904 ≤ n
  · by_cases h2 : n ≤ 4611686018427387904
    · have H := Lib.hid ((isMoney_iff n).2 ⟨h1, h2⟩)
      go_enter Try.func35, Try.ntmps35
      go_wp2
      go_ret
      exact ⟨ret_b H.out.symm, rfl⟩
    · have hf : isMoney n = false := by rw [← Bool.not_eq_true, isMoney_iff]; omega
      have H := Lib.hid hf
      clear hf
      go_enter Try.func35, Try.ntmps35
      go_wp2
      go_ret
      exact ⟨ret_b H.out.symm, rfl⟩
  · have hf : isMoney n = false := by rw [← Bool.not_eq_true, isMoney_iff]; omega
    have H := Lib.hid hf
    clear hf
    go_enter Try.func35, Try.ntmps35
    go_wp2
    go_ret
    exact ⟨ret_b H.out.symm, rfl⟩

theorem of_any (n : Int) (w : World) (h : -9223372036854775808 ≤ n ∧ n ≤ 9223372036854775807) :
    Calls Try.prog 25 #[.int .i64 n] w fun e w' => e = .returned (.agg #[.int .i64 (hi64 (n)), .int .u64 (lo64 (n))]) ∧ Grew w w' := by
  by_cases c : n < 0
  · have H1 : Hid ((-1 : Int) = hi64 n) := by show (-1 : Int) = _; unfold hi64; omega
    have H2 : Hid (IntKind.u64.wrap n = lo64 n) := by show _ = _; rw [IntKind.wrap_u64]; rfl
    go_enter Try.func25, Try.ntmps25
    go_wp2
    exact bodyPost_ret (v := .agg #[.int .i64 (-1), .int .u64 (IntKind.u64.wrap n)]) (by simp [results, Try.results25, go_sem]) rfl ⟨ret_wv H1.out H2.out, grew_alloc _ _ _⟩
  · have H1 : Hid ((0 : Int) = hi64 n) := by show (0 : Int) = _; unfold hi64; omega
    have H2 : Hid (n = lo64 n) := by show _ = _; unfold lo64; omega
    go_enter Try.func25, Try.ntmps25
    go_wp2
    exact bodyPost_ret (v := .agg #[.int .i64 0, .int .u64 n]) (by simp [results, Try.results25, go_sem]) rfl ⟨ret_wv H1.out H2.out, grew_alloc _ _ _⟩
end Go.Proofs.Ytlbfljkhlkjcbaa.NumK
namespace Go.Proofs.Ytlbfljkhlkjcbaa.NumK
open Go.RowKit

theorem money_any (n : Int) (w : World) :
    Calls Try.prog 95 #[.int .i64 n] w fun e w' => e = .returned (.tuple #[.int .i64 (capV n), .int .i64 (capE n)]) ∧ Grew w w' := by
  by_cases h : isMoney n = true
  · have hr : [n].all isMoney = true := by simp [h]
    have H := Lib.hid h
    have C := (right_any (some ⟨w.heap.size, 0, none⟩) 1 1 [n] _ (ints1 w n 3) (by omega))
    rw [hr] at C
    clear hr h
    go_enter Try.func95, Try.ntmps95
    go_wp2_with (go_at_call 30; refine C.mono ?_; rintro e w' ⟨rfl, rfl⟩)
    go_ret2
    exact ⟨ret2 (capV_in H.out).symm (capE_in H.out).symm, grew_alloc _ _ _⟩
  · simp only [Bool.not_eq_true] at h
    have hr : [n].all isMoney = false := by simp [h]
    have H := Lib.hid h
    have C := (right_any (some ⟨w.heap.size, 0, none⟩) 1 1 [n] _ (ints1 w n 3) (by omega))
    rw [hr] at C
    clear hr h
    go_enter Try.func95, Try.ntmps95
    go_wp2_with (go_at_call 30; refine C.mono ?_; rintro e w' ⟨rfl, rfl⟩)
    go_ret2
    exact ⟨ret2 (capV_out H.out).symm (capE_out H.out).symm, grew_alloc _ _ _⟩

/-! ### Sum -/
def up (zs : List Int) : Int := (zs.map (· / 2147483648)).sum
def lo (zs : List Int) : Int := (zs.map (· % 2147483648)).sum

theorem up_succ (zs : List Int) (k : Nat) (h : k < zs.length) : up (zs.take (k + 1)) = up (zs.take k) + zs.getD k 0 / 2147483648 := by
  unfold up
  rw [List.take_succ_eq_append_getElem h, List.map_append, List.sum_append]
  simp [List.getD, List.getElem?_eq_getElem h]
theorem lo_succ (zs : List Int) (k : Nat) (h : k < zs.length) : lo (zs.take (k + 1)) = lo (zs.take k) + zs.getD k 0 % 2147483648 := by
  unfold lo
  rw [List.take_succ_eq_append_getElem h, List.map_append, List.sum_append]
  simp [List.getD, List.getElem?_eq_getElem h]
theorem up_lo (zs : List Int) : up zs * 2147483648 + lo zs = zs.sum := by
  induction zs with
  | nil => rfl
  | cons z zs ih => simp only [up, lo, List.map_cons, List.sum_cons] at *; omega
theorem lo_bd (zs : List Int) : 0 ≤ lo zs ∧ lo zs ≤ zs.length * 2147483648 := by
  induction zs with
  | nil => simp [lo]
  | cons z zs ih => simp only [lo, List.map_cons, List.sum_cons, List.length_cons] at *; omega
theorem up_bd (zs : List Int) (h : zs.all isMoney = true) : -(zs.length * 2147483648) ≤ up zs ∧ up zs ≤ zs.length * 2147483648 := by
  induction zs with
  | nil => simp [up]
  | cons z zs ih =>
    simp only [List.all_cons, Bool.and_eq_true, isMoney_iff] at h
    have := ih h.2
    simp only [up, List.map_cons, List.sum_cons, List.length_cons] at *; omega

def sumV (zs : List Int) : Int := if zs.all isMoney then capV zs.sum else 0
def sumE (zs : List Int) : Int := if zs.all isMoney then capE zs.sum else 3
theorem sumV_in {zs : List Int} (h : zs.all isMoney = true) : sumV zs = capV zs.sum := by simp only [sumV, h, if_true]
theorem sumE_in {zs : List Int} (h : zs.all isMoney = true) : sumE zs = capE zs.sum := by simp only [sumE, h, if_true]
theorem sumV_out {zs : List Int} (h : zs.all isMoney = false) : sumV zs = 0 := by simp [sumV, h]
theorem sumE_out {zs : List Int} (h : zs.all isMoney = false) : sumE zs = 3 := by simp [sumE, h]

theorem sum_wrong (A : Option Addr) (n c : Nat) (zs : List Int) (w : World) (hz : Ints w A n zs) (hn : n ≤ 9223372036854775807) (h : zs.all isMoney = false) :
    Calls Try.prog 94 #[.slice A n c] w fun e w' => e = .returned (.tuple #[.int .i64 (sumV zs), .int .i64 (sumE zs)]) ∧ Grew w w' := by
  have C := right_any A n c zs w hz hn
  rw [h] at C
  have H := Lib.hid h
  clear h hz
  go_enter Try.func94, Try.ntmps94
  go_wp2_with (go_at_call 30; refine C.mono ?_; rintro e w' ⟨rfl, rfl⟩)
  go_ret2
  exact ⟨ret2 (sumV_out H.out).symm (sumE_out H.out).symm, grew_refl _⟩

set_option maxHeartbeats 1000000 in
theorem sum_right (A : Option Addr) (n c : Nat) (zs : List Int) (w : World) (hz : Ints w A n zs) (hn : n ≤ 1000000) (h : zs.all isMoney = true) :
    Calls Try.prog 94 #[.slice A n c] w fun e w' => e = .returned (.tuple #[.int .i64 (sumV zs), .int .i64 (sumE zs)]) ∧ Grew w w' := by
  have C := right_any A n c zs w hz (by omega)
  rw [h] at C
  have H := Lib.hid h
  have HZ : Hid (Ints w A n zs) := hz
  clear h hz
  go_enter Try.func94, Try.ntmps94
  go_wp2_with (go_at_call 30; refine C.mono ?_; rintro e w' ⟨rfl, rfl⟩)
  go_loop [4, 5, 13] (fun u l i => ∃ k : Nat, k ≤ n ∧ i = .int .i64 k ∧ u = .int .i64 (up (zs.take k)) ∧ l = .int .i64 (lo (zs.take k))) (fun _ _ i => n - (intOf i).toNat)
  case atStart => exact ⟨0, Nat.zero_le _, rfl, rfl, rfl⟩
  case round =>
    obtain ⟨k, hk, rfl, rfl, rfl⟩ := hrel
    have hlen := HZ.out.1
    have b1 := up_bd (zs.take k) (by rw [List.all_eq_true]; intro x hx; exact (List.all_eq_true.1 H.out) x (List.mem_of_mem_take hx))
    have b2 := lo_bd (zs.take k)
    have hlk : (zs.take k).length = k := by simp; omega
    rw [hlk] at b1 b2
    by_cases hlt : k < n
    · obtain ⟨b, o, rfl, _, hc⟩ := HZ.out.2 (by omega)
      have hcell := hc k hlt
      have hu := up_succ zs k (by omega)
      have hl := lo_succ zs k (by omega)
      have hm : isMoney (zs.getD k 0) = true := (List.all_eq_true.1 H.out) _ (by rw [List.getD_eq_getElem?_getD, List.getElem?_eq_getElem (by omega)]; exact List.getElem_mem _)
      rw [isMoney_iff] at hm
      obtain ⟨hm1, hm2⟩ := hm
      obtain ⟨b3, b4⟩ := b1
      obtain ⟨b5, b6⟩ := b2
      generalize zs.getD k 0 = y at *
      generalize up (zs.take k) = U at *
      generalize lo (zs.take k) = L at *
      have HU := Lib.hid hu
      have HL := Lib.hid hl
      have k31 := mask31 y
      clear hu hl hc hlen hlk
      go_wp2
      go_round
      case rel => exact ⟨k + 1, by omega, by go_num, by rw [HU.out], by rw [HL.out]⟩
      case measure => simp [intOf]; omega
    · have : k = n := by omega
      subst this
      have ht : zs.take k = zs := List.take_of_length_le (by omega)
      rw [ht] at b1 b2 ⊢
      have hs := up_lo zs
      have HS : Hid (zs.sum = (up zs + lo zs / 2147483648) * 2147483648 + lo zs % 2147483648) := by show zs.sum = _; omega
      clear hs ht hlk hlen hlt
      have e1 : sumV zs = capV zs.sum := sumV_in H.out
      have e2 : sumE zs = capE zs.sum := sumE_in H.out
      have E1 := Lib.hid e1
      have E2 := Lib.hid e2
      clear e1 e2
      generalize up zs = U at *
      generalize lo zs = L at *
      obtain ⟨b3, b4⟩ := b1
      obtain ⟨b5, b6⟩ := b2
      have m31 := mask31 L
      have q0 : 0 ≤ L / 2147483648 := by omega
      have q1 : L / 2147483648 ≤ 1000000 := by omega
      have r0 : 0 ≤ L % 2147483648 := by omega
      have r1 : L % 2147483648 < 2147483648 := by omega
      by_cases c1 : U + L / 2147483648 < -2147483648
      · have hf : isMoney zs.sum = false := by rw [← Bool.not_eq_true, isMoney_iff]; have := HS.out; omega
        have HF := Lib.hid hf
        clear hf
        go_wp2
        go_ret2
        exact ⟨ret2 (E1.out.trans (capV_out HF.out)).symm (E2.out.trans (capE_out HF.out)).symm, grew_refl _⟩
      · by_cases c2 : 2147483648 < U + L / 2147483648
        · have hf : isMoney zs.sum = false := by rw [← Bool.not_eq_true, isMoney_iff]; have := HS.out; omega
          have HF := Lib.hid hf
          clear hf
          go_wp2
          go_ret2
          exact ⟨ret2 (E1.out.trans (capV_out HF.out)).symm (E2.out.trans (capE_out HF.out)).symm, grew_refl _⟩
        · go_wp2_with (go_at_call 95; refine (money_any _ _).mono ?_; rintro e w' ⟨rfl, hg⟩)
          go_ret2
          have hs := HS.out
          exact ⟨ret2 (by rw [E1.out, hs]) (by rw [E2.out, hs]), hg⟩

theorem sum_any (A : Option Addr) (n c : Nat) (zs : List Int) (w : World) (hz : Ints w A n zs) (hn : n ≤ 1000000) :
    Calls Try.prog 94 #[.slice A n c] w fun e w' => e = .returned (.tuple #[.int .i64 (sumV zs), .int .i64 (sumE zs)]) ∧ Grew w w' := by
  by_cases h : zs.all isMoney = true
  · exact sum_right A n c zs w hz hn h
  · exact sum_wrong A n c zs w hz (by omega) (by simpa using h)

end Go.Proofs.Ytlbfljkhlkjcbaa.NumK
namespace Go.Proofs.Ytlbfljkhlkjcbaa.NumK
open Go.RowKit
theorem grew_every {w : World} {S : World → Prop} (h : ∀ w', Grew w w' → S w') : ∀ p : GrewTo w, S p.to := fun p => h p.to p.h
theorem calls_every {P : Program} {f : FuncId} {args : Array Value} {w : World} {p : GrewTo w} {v : Value}
    (h : ∀ w', Grew w w' → Calls P f args w' fun e w'' => e = .returned v ∧ Grew w' w'') : Calls P f args p.to fun e w'' => e = .returned v ∧ ∃ q : GrewTo w, w'' = q.to := calls_grew (h p.to p.h)
end Go.Proofs.Ytlbfljkhlkjcbaa.NumK
namespace Go.Proofs.Ytlbfljkhlkjcbaa.NumK
open Go.RowKit
set_option linter.unusedVariables false

theorem OwnE.setO {α : Type} {E : En α} {w : World} {base : Nat} {t : TypeId} {v : Value} {l : List α} (h : OwnE E w base t v l) (b i : Nat) (u : Value) (hne : ∀ g, v.ownBlock = some g → g ≠ b) : OwnE E (w.setCell ⟨b, i, none⟩ u) base t v l := by
  obtain ⟨hl, h⟩ := h
  refine ⟨hl, ?_⟩
  rcases h with h | ⟨g, cap, cur, hv, hb, hh, r⟩
  · exact Or.inl h
  · refine Or.inr ⟨g, cap, cur, hv, hb, ?_, r⟩
    rw [Below.heap_setCell _ _ _ _ (hne g (by rw [hv]; rfl))]
    exact hh
theorem OwnC.same {w w' : World} {b : Nat} {cs : List Value} (h : OwnC w b cs) (hs : w'.heap[b]? = w.heap[b]?) (hz : w.heap.size ≤ w'.heap.size) : OwnC w' b cs :=
  ⟨Nat.lt_of_lt_of_le h.lt hz, fun i hi => (World.cell?_of_block (w := w) (a := ⟨b, i, none⟩) hs).trans (h.c i hi), fun i hi => (World.frozen?_of_block (w := w) (a := ⟨b, i, none⟩) hs).trans (h.f i hi)⟩
theorem OwnE.sameB {α : Type} {E : En α} {w w' : World} {b : Nat} {t : TypeId} {A : Option Addr} {n c : Nat} {l : List α} (h : OwnE E w b t (.slice A n c) l) (g : ∀ x, A = some x → w'.heap[x.block]? = w.heap[x.block]?) : OwnE E w' b t (.slice A n c) l := by
  obtain ⟨hl, h⟩ := h
  refine ⟨hl, ?_⟩
  rcases h with h | ⟨k, cap, cur, hv, h1, hh, r⟩
  · exact Or.inl h
  · refine Or.inr ⟨k, cap, cur, hv, h1, ?_, r⟩
    cases hv
    exact (g _ rfl).trans hh
theorem OwnC.grown {w w' : World} {b : Nat} {cs : List Value} {row : Option Nat} (h : OwnC w b cs) (hg : w.grownBy w' row) (hne : some b ≠ row) : OwnC w' b cs :=
  h.same (hg.block b h.lt hne) hg.size

theorem OwnE.putN {α : Type} {E : En α} {base b : Nat} {t : TypeId} {v : Value} {l : List α} (hne : ∀ g, v.ownBlock = some g → g ≠ b) : ∀ (vs : List Value) (o : Nat) (w : World), OwnE E w base t v l → OwnE E (putC w b o vs) base t v l
  | [], _, _, h => h
  | u :: vs, o, w, h => OwnE.putN hne vs (o + 1) _ (h.setO b o u hne)

section
variable {α β : Type} {E : En α} {F : En β} {w w' : World} {base : Nat} {s t : TypeId} {va vb : Value} {la : List α} {lb : List β} {ops : Array Oper} {rest : List Oper} {o : Oper} {a : Act} {Q : Exit → Act → World → Prop}
/-- One more in the first row; what other blocks hold stays. -/
theorem wpList_twoG (hgd : o.guard = none) (p q : Operand) (T : TypeId) (z : Value) (by' : Nat)
    (ho : o.op = .call { callee := .builtin .append, args := #[p, q], argTypes := #[T, T] })
    (hT : Try.prog.underlying T = some (.slice s)) (hi : (Try.prog.info? s).map (fun i => (i.zero, i.size, i.bytes)) = some (some z, E.size, by')) (hz : z.cells.size = E.size)
    (h : Two E F w base s t va vb la lb) (hs : a.eval p = va) (N : Nat) (x : α) (hx : a.eval q = .slice (some ⟨N, 0, none⟩) 1 1) (hR : RowE E w (some ⟨N, 0, none⟩) 1 [x])
    (hm : la.length + 1 ≤ maxLen) (hlim : (la.length + 1) * by' ≤ 140737488355328) (hbase : base ≤ w.heap.size)
    (k : ∀ A c w', Two E F w' base s t (.slice A (la.length + 1) c) vb (la ++ [x]) lb → w.grownBy w' va.ownBlock → (∀ y, A = some y → va.ownBlock = some y.block ∨ y.block = w.heap.size) → wpList Try.prog ops Q rest (a.put o.dst (.slice A (la.length + 1) c)) w') : wpList Try.prog ops Q (o :: rest) a w := by
  obtain ⟨i, hi, hz0, hz1, hz2⟩ := info_parts hi
  refine wpList_append_lies w hgd p q T ho base s i z E.size by' hT hi hz0 hz1 hz2 hz E.pos va la.length _ hs h.a ⟨N, 0, none⟩ 1 1 (E.cs x) hx (by rw [E.len, Nat.one_mul]) (news_one hR) (E.one x) (by omega) hm hlim hbase _ rfl fun g cap w' h2 h3 h4 h5 => k _ cap w' (h.grown (va := va) ?_ h3 fun g' hg' => ?_) h3 fun y hy => ?_
  · show w'.ownsRow base s E.size _ (la ++ [x]).length ((la ++ [x]).flatMap E.cs)
    rw [List.length_append, List.flatMap_append]
    simpa using h2
  · have : g = g' := by simpa [Value.ownBlock] using hg'
    subst this
    exact h4
  · cases hy; exact h4
theorem Two.setO (h : Two E F w base s t va vb la lb) (b i : Nat) (u : Value) (h1 : ∀ g, va.ownBlock = some g → g ≠ b) (h2 : ∀ g, vb.ownBlock = some g → g ≠ b) : Two E F (w.setCell ⟨b, i, none⟩ u) base s t va vb la lb := ⟨h.a.setO b i u h1, h.b.setO b i u h2, h.ne⟩
theorem Two.putN (h : Two E F w base s t va vb la lb) (b : Nat) (vs : List Value) (o : Nat) (h1 : ∀ g, va.ownBlock = some g → g ≠ b) (h2 : ∀ g, vb.ownBlock = some g → g ≠ b) : Two E F (putC w b o vs) base s t va vb la lb := ⟨h.a.putN h1 vs o w, h.b.putN h2 vs o w, h.ne⟩
end
theorem own_addr {A : Option Addr} {n c g : Nat} (h : (Value.slice A n c).ownBlock = some g) : ∃ x, A = some x ∧ x.block = g := by
  cases A with
  | none => cases h
  | some x =>
    refine ⟨x, rfl, ?_⟩
    simpa [Value.ownBlock] using h

end Go.Proofs.Ytlbfljkhlkjcbaa.NumK
namespace Go.Proofs.Ytlbfljkhlkjcbaa.NumK
open Go.RowKit
set_option linter.unusedVariables false

/-- From w5 on: two rows grow, and a block bm turns; what else stood at w5 stands. -/
structure Grow2 {α β : Type} (E : En α) (F : En β) (w w5 wr : World) (s t : TypeId) (bm : Nat) (vs : List Value) (va vb : Value) (la : List α) (lb : List β) : Prop where
  two : Two E F wr w5.heap.size s t va vb la lb
  cm : OwnC wr bm vs
  gr : Grew w wr
  low : ∀ k, k < w5.heap.size → k ≠ bm → wr.heap[k]? = w5.heap[k]?
  sz : w5.heap.size ≤ wr.heap.size
  nm : bm < w5.heap.size ∧ w.heap.size ≤ bm
section
variable {α β : Type} {E : En α} {F : En β} {w w5 wr w2 : World} {s t : TypeId} {bm : Nat} {vs : List Value} {va vb v' : Value} {la la' : List α} {lb lb' : List β}
theorem Grow2.start (h : OwnC w5 bm vs) (g : Grew w w5) (hb : w.heap.size ≤ bm) : Grow2 E F w w5 w5 s t bm vs (.slice none 0 0) (.slice none 0 0) [] [] :=
  ⟨Two.nil _ _ _ _ _ _, h, g, fun _ _ _ => rfl, Nat.le_refl _, ⟨h.lt, hb⟩⟩
theorem Grow2.keep (h : Grow2 E F w w5 wr s t bm vs va vb la lb) (g : Grew wr w2) : Grow2 E F w w5 w2 s t bm vs va vb la lb :=
  ⟨h.two.keep g, h.cm.keep g, grew_trans h.gr g, fun k hk hn => (g.block k (Nat.lt_of_lt_of_le hk h.sz)).trans (h.low k hk hn), Nat.le_trans h.sz g.size, h.nm⟩
theorem Grow2.appA (h : Grow2 E F w w5 wr s t bm vs va vb la lb) (hr : Two E F w2 w5.heap.size s t v' vb la' lb) (hg : wr.grownBy w2 va.ownBlock) : Grow2 E F w w5 w2 s t bm vs v' vb la' lb := by
  have hn := h.nm
  have hlow : ∀ k, k < w5.heap.size → some k ≠ va.ownBlock := fun k hk he => by have := (World.ownsRow.lt h.two.a k he.symm).1; omega
  refine ⟨hr, h.cm.grown hg (hlow _ hn.1), ?_, fun k hk hne => (hg.block k (Nat.lt_of_lt_of_le hk h.sz) (hlow k hk)).trans (h.low k hk hne), Nat.le_trans h.sz hg.size, hn⟩
  exact Below.grown h.gr hg h.gr.size fun k hk => by have := (World.ownsRow.lt h.two.a k hk).1; omega
theorem Grow2.appB (h : Grow2 E F w w5 wr s t bm vs va vb la lb) (hr : Two F E w2 w5.heap.size t s v' va lb' la) (hg : wr.grownBy w2 vb.ownBlock) : Grow2 E F w w5 w2 s t bm vs va v' la lb' := by
  have hn := h.nm
  have hlow : ∀ k, k < w5.heap.size → some k ≠ vb.ownBlock := fun k hk he => by have := (World.ownsRow.lt h.two.b k he.symm).1; omega
  refine ⟨hr.swap, h.cm.grown hg (hlow _ hn.1), ?_, fun k hk hne => (hg.block k (Nat.lt_of_lt_of_le hk h.sz) (hlow k hk)).trans (h.low k hk hne), Nat.le_trans h.sz hg.size, hn⟩
  exact Below.grown h.gr hg h.gr.size fun k hk => by have := (World.ownsRow.lt h.two.b k hk).1; omega
theorem Grow2.set (h : Grow2 E F w w5 wr s t bm vs va vb la lb) (i : Nat) (u : Value) (hi : i < vs.length) : Grow2 E F w w5 (wr.setCell ⟨bm, i, none⟩ u) s t bm (vs.set i u) va vb la lb := by
  have hn := h.nm
  refine ⟨h.two.setO bm i u (fun g hg => by have := (World.ownsRow.lt h.two.a g hg).1; omega) (fun g hg => by have := (World.ownsRow.lt h.two.b g hg).1; omega), h.cm.set i u hi, grew_set h.gr u hn.2, fun k hk hne => (Below.heap_setCell _ _ _ _ (by show k ≠ bm; exact hne)).trans (h.low k hk hne), by rw [size_set]; exact h.sz, hn⟩
/-- What stood at w5 in another block. -/
theorem Grow2.own (h : Grow2 E F w w5 wr s t bm vs va vb la lb) {k : Nat} {cs : List Value} (hk : OwnC w5 k cs) (hne : k ≠ bm) : OwnC wr k cs := hk.same (h.low k hk.lt hne) h.sz
theorem Grow2.ownE (h : Grow2 E F w w5 wr s t bm vs va vb la lb) {γ : Type} {G : En γ} {base : Nat} {u : TypeId} {A : Option Addr} {n c : Nat} {l : List γ} (hk : OwnE G w5 base u (.slice A n c) l) (hne : ∀ x, A = some x → x.block ≠ bm) : OwnE G wr base u (.slice A n c) l :=
  hk.sameB fun x hx => h.low x.block (hk.block x hx).2 (hne x hx)
/-- Blocks made since are none of the rows'. -/
theorem Grow2.far (h : Grow2 E F w w5 wr s t bm vs va vb la lb) {k : Nat} (hk : wr.heap.size ≤ k) : some k ≠ va.ownBlock ∧ some k ≠ vb.ownBlock := h.two.far hk
theorem Grow2.rows (h : Grow2 E F w w5 wr s t bm vs va vb la lb) : OwnE E wr w.heap.size s va la ∧ OwnE F wr w.heap.size t vb lb := by
  have := h.nm
  exact ⟨h.two.a.mono (by omega), h.two.b.mono (by omega)⟩
end
end Go.Proofs.Ytlbfljkhlkjcbaa.NumK
namespace Go.Proofs.Ytlbfljkhlkjcbaa.NumK
open Go.RowKit

theorem mag_any (n : Int) (w : World) (h : -9223372036854775808 ≤ n ∧ n ≤ 9223372036854775807) :
    Calls Try.prog 54 #[.int .i64 n] w fun e w' => e = .returned (.int .u64 (n.natAbs : Int)) ∧ w = w' := by
  by_cases c : n < 0
  · have e : IntKind.u64.wrap (-IntKind.u64.wrap n) = (n.natAbs : Int) := by rw [IntKind.wrap_u64, IntKind.wrap_u64]; omega
    have E := Lib.hid e
    clear e
    go_enter Try.func54, Try.ntmps54
    go_wp2
    go_ret
    exact ⟨ret_i E.out, rfl⟩
  · have e : (n.natAbs : Int) = n := by omega
    have E := Lib.hid e
    clear e
    go_enter Try.func54, Try.ntmps54
    go_wp2
    go_ret
    exact ⟨ret_i E.out.symm, rfl⟩

set_option maxRecDepth 100000 in
/-- turned round; not of the least one. -/
theorem neg_any (x : Int) (w : World) (h : isWide x = true) (h2 : isWide (-x) = true) :
    Calls Try.prog 55 #[(.agg #[.int .i64 (hi64 (x)), .int .u64 (lo64 (x))])] w fun e w' => e = .returned (.agg #[.int .i64 (hi64 (-x)), .int .u64 (lo64 (-x))]) ∧ Grew w w' := by
  have b1 := lo_bounds x
  have b2 := hi_bounds x h
  have b3 := hi_bounds (-x) h2
  have ex := w_eq x
  obtain ⟨s1, hs1⟩ : ∃ s, s = (18446744073709551615 - lo64 x + 1 + 0) % 18446744073709551616 := ⟨_, rfl⟩
  obtain ⟨d1, hd1⟩ : ∃ s, s = (18446744073709551615 - lo64 x + 1 + 0) / 18446744073709551616 := ⟨_, rfl⟩
  have A1 := add64_named (18446744073709551615 - lo64 x) 1 0 s1 d1 (by omega) (by omega) (by omega) (by omega) hs1 hd1
  have ew : 0 ≤ IntKind.u64.wrap (hi64 x) ∧ IntKind.u64.wrap (hi64 x) < 18446744073709551616 ∧ (IntKind.u64.wrap (hi64 x) = hi64 x ∨ IntKind.u64.wrap (hi64 x) = hi64 x + 18446744073709551616) := by rw [IntKind.wrap_u64]; omega
  obtain ⟨s2, hs2⟩ : ∃ s, s = (18446744073709551615 - IntKind.u64.wrap (hi64 x) + 0 + d1) % 18446744073709551616 := ⟨_, rfl⟩
  obtain ⟨d2, hd2⟩ : ∃ s, s = (18446744073709551615 - IntKind.u64.wrap (hi64 x) + 0 + d1) / 18446744073709551616 := ⟨_, rfl⟩
  have A2 := add64_named (18446744073709551615 - IntKind.u64.wrap (hi64 x)) 0 d1 s2 d2 (by omega) (by omega) (by omega) (by omega) hs2 hd2
  have b4 := (isWide_iff (-x)).1 h2
  have E := w_unique (-x) (IntKind.i64.wrap s2) s1 (by rw [IntKind.wrap_i64]; omega) (by omega) (by omega)
  have E1 := Lib.hid E.1.symm
  have E2 := Lib.hid E.2.symm
  have N1 := not_u64 (lo64 x) (by omega) (by omega)
  have N2 := not_u64 (IntKind.u64.wrap (hi64 x)) (by omega) (by omega)
  generalize eh : IntKind.u64.wrap (hi64 x) = hw at *
  clear hs1 hd1 hs2 hd2 ew E b3 ex b2 b1 b4
  generalize lo64 x = l at *
  generalize hi64 x = hh at *
  clear h h2
  go_enter Try.func55, Try.ntmps55
  go_wp2_with (first | simp only [A1] | simp only [A2])
  exact bodyPost_ret (v := .agg #[.int .i64 (wrap64 s2), .int .u64 s1]) (by simp [results, Try.results55, go_sem]) rfl ⟨ret_wv ((IntWalk.i64_left s2).symm.trans E1.out) E2.out, grew_trans (grew_alloc _ _ _) (grew_alloc _ _ _)⟩




set_option maxHeartbeats 1000000 in
theorem refTimes_any (a b : Int) (w : World) (ha : -9223372036854775808 ≤ a ∧ a ≤ 9223372036854775807) (hb : -9223372036854775808 ≤ b ∧ b ≤ 9223372036854775807) :
    Calls Try.prog 26 #[.int .i64 a, .int .i64 b] w fun e w' => e = .returned (.agg #[.int .i64 (hi64 (a * b)), .int .u64 (lo64 (a * b))]) ∧ Grew w w' := by
  have m1 := fun w => mag_any a w ha
  have m2 := fun w => mag_any b w hb
  have M := mul64_any a.natAbs b.natAbs (by omega) (by omega)
  obtain ⟨t1, t2, t3⟩ := times_arith a b ha hb
  generalize hP : a.natAbs * b.natAbs = P at *
  have e1 : ((P / 18446744073709551616 : Nat) : Int) = hi64 (P : Int) := by unfold hi64; omega
  have e2 : ((P % 18446744073709551616 : Nat) : Int) = lo64 (P : Int) := by unfold lo64; omega
  rw [e1, e2] at M
  have N := fun w => neg_any (P : Int) w ((isWide_iff _).2 (by omega)) ((isWide_iff _).2 (by omega))
  have g1 : 0 ≤ hi64 (P : Int) ∧ hi64 (P : Int) ≤ 4611686018427387904 := by unfold hi64; omega
  obtain ⟨g1, g2⟩ := g1
  have T2 := Lib.hid t2
  have T3 := Lib.hid t3
  clear t1 t2 t3 e1 e2 hP
  by_cases s1 : a < 0 <;> by_cases s2 : b < 0
  · have d1 : decide (a < 0) = true := by simpa using s1
    have d2 : decide (b < 0) = true := by simpa using s2
    go_enter Try.func26, Try.ntmps26
    go_wp2_with (first
      | (go_at_call 54; ((with_reducible refine (m1 _).mono ?_); rintro e w' ⟨rfl, rfl⟩))
      | (go_at_call 54; ((with_reducible refine (m2 _).mono ?_); rintro e w' ⟨rfl, rfl⟩))
      | (go_at_call 53; ((with_reducible refine (M _).mono ?_); rintro e w' ⟨rfl, rfl⟩))
      | (go_at_call 55; ((with_reducible refine (N _).mono ?_); rintro e w1 ⟨rfl, hg1⟩)))
    exact bodyPost_ret (v := (.agg #[.int .i64 (hi64 ((P : Int))), .int .u64 (lo64 ((P : Int)))])) (by simp [results, Try.results26, go_sem]) rfl ⟨ret_wv (by rw [T2.out (by omega)]) (by rw [T2.out (by omega)]), grew_trans (grew_alloc _ _ _) (grew_alloc _ _ _)⟩
  · have d1 : decide (a < 0) = true := by simpa using s1
    have d2 : decide (b < 0) = false := by simpa using s2
    go_enter Try.func26, Try.ntmps26
    go_wp2_with (first
      | (go_at_call 54; ((with_reducible refine (m1 _).mono ?_); rintro e w' ⟨rfl, rfl⟩))
      | (go_at_call 54; ((with_reducible refine (m2 _).mono ?_); rintro e w' ⟨rfl, rfl⟩))
      | (go_at_call 53; ((with_reducible refine (M _).mono ?_); rintro e w' ⟨rfl, rfl⟩))
      | (go_at_call 55; ((with_reducible refine (N _).mono ?_); rintro e w1 ⟨rfl, hg1⟩; have k0 := own_cells hg1; obtain ⟨k1, k2, k3, k4, k5⟩ := k0)))
    have hz := own_grew hg1
    exact bodyPost_ret (v := (.agg #[.int .i64 (hi64 (-(P : Int))), .int .u64 (lo64 (-(P : Int)))])) (by simp [results, Try.results26, go_sem, k1, k2]) rfl ⟨ret_wv (by rw [T3.out (by omega)]) (by rw [T3.out (by omega)]), grew_set (grew_set hz _ (Nat.le_refl _)) _ (Nat.le_refl _)⟩
  · have d1 : decide (a < 0) = false := by simpa using s1
    have d2 : decide (b < 0) = true := by simpa using s2
    go_enter Try.func26, Try.ntmps26
    go_wp2_with (first
      | (go_at_call 54; ((with_reducible refine (m1 _).mono ?_); rintro e w' ⟨rfl, rfl⟩))
      | (go_at_call 54; ((with_reducible refine (m2 _).mono ?_); rintro e w' ⟨rfl, rfl⟩))
      | (go_at_call 53; ((with_reducible refine (M _).mono ?_); rintro e w' ⟨rfl, rfl⟩))
      | (go_at_call 55; ((with_reducible refine (N _).mono ?_); rintro e w1 ⟨rfl, hg1⟩; have k0 := own_cells hg1; obtain ⟨k1, k2, k3, k4, k5⟩ := k0)))
    have hz := own_grew hg1
    exact bodyPost_ret (v := (.agg #[.int .i64 (hi64 (-(P : Int))), .int .u64 (lo64 (-(P : Int)))])) (by simp [results, Try.results26, go_sem, k1, k2]) rfl ⟨ret_wv (by rw [T3.out (by omega)]) (by rw [T3.out (by omega)]), grew_set (grew_set hz _ (Nat.le_refl _)) _ (Nat.le_refl _)⟩
  · have d1 : decide (a < 0) = false := by simpa using s1
    have d2 : decide (b < 0) = false := by simpa using s2
    go_enter Try.func26, Try.ntmps26
    go_wp2_with (first
      | (go_at_call 54; ((with_reducible refine (m1 _).mono ?_); rintro e w' ⟨rfl, rfl⟩))
      | (go_at_call 54; ((with_reducible refine (m2 _).mono ?_); rintro e w' ⟨rfl, rfl⟩))
      | (go_at_call 53; ((with_reducible refine (M _).mono ?_); rintro e w' ⟨rfl, rfl⟩))
      | (go_at_call 55; ((with_reducible refine (N _).mono ?_); rintro e w1 ⟨rfl, hg1⟩)))
    exact bodyPost_ret (v := (.agg #[.int .i64 (hi64 ((P : Int))), .int .u64 (lo64 ((P : Int)))])) (by simp [results, Try.results26, go_sem]) rfl ⟨ret_wv (by rw [T2.out (by omega)]) (by rw [T2.out (by omega)]), grew_trans (grew_alloc _ _ _) (grew_alloc _ _ _)⟩
end Go.Proofs.Ytlbfljkhlkjcbaa.NumK
namespace Go.Proofs.Ytlbfljkhlkjcbaa.NumK
open Go.RowKit
set_option linter.unusedVariables false

/-- The trade as it stands in the book. -/
def asNo (t : Tr) (n : Int) : Tr := ((n, t.1.2), false)
def enterE (b : Bk) (t : Tr) : Int := if rightB b then (if numsT t then (if 128 ≤ b.2.1.length then 9 else (if b.1 = 1099511627776 then 1 else addE b (legsT t false))) else 3) else 14
def enterB (b : Bk) (t : Tr) : Bk := if enterE b t = 0 then (b.1 + 1, b.2.1 ++ [asNo t (b.1 + 1)], plA (addF b.2.2 (legsT t false))) else bk0
def enterN (b : Bk) (t : Tr) : Int := if enterE b t = 0 then b.1 + 1 else 0
theorem enterE_ok {b : Bk} {t : Tr} : enterE b t = 0 ↔ rightB b = true ∧ numsT t = true ∧ b.2.1.length < 128 ∧ b.1 ≠ 1099511627776 ∧ addE b (legsT t false) = 0 := by
  unfold enterE
  by_cases h1 : rightB b = true
  · rw [if_pos h1]
    by_cases h2 : numsT t = true
    · rw [if_pos h2]
      by_cases h3 : 128 ≤ b.2.1.length
      · rw [if_pos h3]; exact ⟨fun h => absurd h (by decide), fun h => absurd h.2.2.1 (by omega)⟩
      · rw [if_neg h3]
        by_cases h4 : b.1 = 1099511627776
        · rw [if_pos h4]; exact ⟨fun h => absurd h (by decide), fun h => absurd h4 h.2.2.2.1⟩
        · rw [if_neg h4]; exact ⟨fun h => ⟨h1, h2, by omega, h4, h⟩, fun h => h.2.2.2.2⟩
    · rw [if_neg h2]; exact ⟨fun h => absurd h (by decide), fun h => absurd h.2.1 h2⟩
  · rw [if_neg h1]; exact ⟨fun h => absurd h (by decide), fun h => absurd h.1 h1⟩
theorem enterB_ok {b : Bk} {t : Tr} (h : enterE b t = 0) : enterB b t = (b.1 + 1, b.2.1 ++ [asNo t (b.1 + 1)], plA (addF b.2.2 (legsT t false))) := by unfold enterB; rw [if_pos h]
theorem enterN_ok {b : Bk} {t : Tr} (h : enterE b t = 0) : enterN b t = b.1 + 1 := by unfold enterN; rw [if_pos h]

/-- A trade with that number that is not off. -/
def liveT (no : Int) (t : Tr) : Bool := decide (t.1.1 = no) && !t.2
def theT (l : List Tr) (no : Int) : Tr := (l.find? (liveT no)).getD tr0
def offT (no : Int) (t : Tr) : Tr := if liveT no t then (t.1, true) else t
def offL (l : List Tr) (no : Int) : List Tr := l.map (offT no)
def cancelE (b : Bk) (no : Int) : Int := if rightB b then (if b.2.1.any (liveT no) then addE b (legsT (theT b.2.1 no) true) else 10) else 14
def cancelB (b : Bk) (no : Int) : Bk := if cancelE b no = 0 then (b.1, offL b.2.1 no, plA (addF b.2.2 (legsT (theT b.2.1 no) true))) else bk0
/-- Then enter the same at other terms. -/
def termsT (t : Tr) (q p : Int) : Tr := ((t.1.1, t.1.2.1, t.1.2.2.1, t.1.2.2.2.1, q, p), t.2)
def corrE (b : Bk) (no q p : Int) : Int := if cancelE b no = 0 then enterE (cancelB b no) (termsT (theT b.2.1 no) q p) else cancelE b no
def corrB (b : Bk) (no q p : Int) : Bk := if cancelE b no = 0 then enterB (cancelB b no) (termsT (theT b.2.1 no) q p) else bk0
def corrN (b : Bk) (no q p : Int) : Int := if cancelE b no = 0 then enterN (cancelB b no) (termsT (theT b.2.1 no) q p) else 0
def clearB (b : Bk) : Bk := (b.1, [], b.2.2)

/-! ### what is right stays so -/
theorem right_enter {b : Bk} {t : Tr} (h : enterE b t = 0) : rightB (enterB b t) = true := by
  obtain ⟨h1, h2, h3, h4, h5⟩ := enterE_ok.1 h
  rw [enterB_ok h]
  obtain ⟨g1, ⟨⟨g2, g3⟩, g4⟩, g5⟩ := (rightB_iff b).1 h1
  obtain ⟨_, a2, a3, a4⟩ := addE_ok.1 h5
  refine (rightB_iff _).2 ⟨by simp only; omega, ⟨⟨fun x hx => ?_, ?_⟩, ?_⟩, right_addP g5 a2 a3 a4⟩
  · simp only at hx ⊢
    rcases List.mem_append.1 hx with hx | hx
    · have := g2 x hx
      unfold okTr at this ⊢
      rw [Bool.and_eq_true, wi_iff] at this ⊢
      exact ⟨this.1, this.2.1, by omega⟩
    · obtain rfl := List.mem_singleton.1 hx
      unfold okTr
      rw [Bool.and_eq_true, wi_iff]
      refine ⟨by rw [nums_bare (t := asNo t (b.1 + 1)) (u := t) rfl]; exact h2, ?_⟩
      show 1 ≤ b.1 + 1 ∧ b.1 + 1 ≤ b.1 + 1
      omega
  · simp only
    unfold Rise
    rw [List.pairwise_append]
    refine ⟨g3, by simp, fun x hx y hy => ?_⟩
    obtain rfl := List.mem_singleton.1 hy
    have := g2 x hx
    unfold okTr at this
    rw [Bool.and_eq_true, wi_iff] at this
    show x.1.1 < b.1 + 1
    omega
  · simp only [List.length_append, List.length_cons, List.length_nil]; omega
theorem right_clear {b : Bk} (h : rightB b = true) : rightB (clearB b) = true := by
  obtain ⟨g1, ⟨⟨g2, g3⟩, g4⟩, g5⟩ := (rightB_iff b).1 h
  exact (rightB_iff _).2 ⟨g1, ⟨⟨fun x hx => absurd hx (by simp [clearB]), List.Pairwise.nil⟩, by simp [clearB]⟩, g5⟩
theorem right_zero : rightB bk0 = true := by decide +kernel

/-- Costs add up to 0, too; and few have been entered. -/
structure GB (b : Bk) (k : Nat) : Prop where
  right : rightB b = true
  cost : ∀ n : Int, 1 ≤ n → n ≤ 8 → cI b.2.2 n = 0
  next : b.1 ≤ k
theorem GB.poss {b : Bk} {k : Nat} (h : GB b k) : rightPs b.2.2 = true := ((rightB_iff b).1 h.right).2.2
theorem GB.zero : GB bk0 0 := ⟨right_zero, fun _ _ _ => rfl, by decide⟩
theorem GB.mono {b : Bk} {k m : Nat} (h : GB b k) (hm : k ≤ m) : GB b m := ⟨h.right, h.cost, by have := h.next; omega⟩
theorem cost_add {l legs : List Po} (hl : rightPs l = true) (hg : legs.all okLeg = true) (h1 : ∀ n : Int, 1 ≤ n → n ≤ 8 → cI l n = 0) (h2 : ∀ n, cI legs n = 0) : ∀ n : Int, 1 ≤ n → n ≤ 8 → cI (plA (addF l legs)) n = 0 := fun n n1 n2 => by
  rw [cI_add (right_keys hl) (leg_keys hg) n n1 n2, h1 n n1 n2, h2 n]; rfl
theorem GB.enter {b : Bk} {k : Nat} {t : Tr} (h : GB b k) (he : enterE b t = 0) : GB (enterB b t) (k + 1) := by
  obtain ⟨h1, h2, h3, h4, h5⟩ := enterE_ok.1 he
  obtain ⟨_, a2, a3, a4⟩ := addE_ok.1 h5
  refine ⟨right_enter he, ?_, ?_⟩
  · rw [enterB_ok he]; exact cost_add h.poss a2 h.cost fun n => cI_legs t false n
  · rw [enterB_ok he]; have := h.next; simp only; omega
theorem GB.clear {b : Bk} {k : Nat} (h : GB b k) : GB (clearB b) k := ⟨right_clear h.right, h.cost, h.next⟩

/-- The sums of an instrument's positions. -/
def bothOK (l : List Po) (n : Int) : Bool := (l.filter (isI n)).all okAm && (isMoney (qI l n) && isMoney (cI l n))
def bothQ (l : List Po) (n : Int) : Int := if bothOK l n then qI l n else 0
def bothC (l : List Po) (n : Int) : Int := if bothOK l n then cI l n else 0
theorem GB.both {b : Bk} {k : Nat} (h : GB b k) (n : Int) (n1 : 1 ≤ n) (n2 : n ≤ 8) : bothQ b.2.2 n = 0 ∧ bothC b.2.2 n = 0 := by
  unfold bothQ bothC
  rw [((rightPs_iff _).1 h.poss).2.2 n n1 n2, h.cost n n1 n2]
  constructor <;> split <;> rfl

/-! ### there and back -/
theorem fits_congr {f g : Ky → Int × Int} (h : ∀ k, okK k = true → f k = g k) : fits f = fits g := by
  rw [Bool.eq_iff_iff, fits_iff, fits_iff]
  constructor
  · intro h2 k hk; rw [← h k hk]; exact h2 k hk
  · intro h2 k hk; rw [h k hk]; exact h2 k hk
end Go.Proofs.Ytlbfljkhlkjcbaa.NumK
namespace Go.Proofs.Ytlbfljkhlkjcbaa.NumK
open Go.RowKit
set_option linter.unusedVariables false

/-! ### parts -/
/-! ### entered one behind the other -/
def entS (b : Bk) (t : Tr) : Bk := if enterE b t = 0 then enterB b t else b
def entL (l : List Tr) : Bk := l.foldl entS bk0
def legsOf (l : List Tr) : List Po := (l.filter numsT).flatMap fun t => legsT t false
theorem legsOf_app (l m : List Tr) : legsOf (l ++ m) = legsOf l ++ legsOf m := by unfold legsOf; rw [List.filter_append, List.flatMap_append]
theorem legsOf_one {t : Tr} (h : numsT t = true) : legsOf [t] = legsT t false := by unfold legsOf; simp [h]
theorem legsOf_no {t : Tr} (h : numsT t = false) : legsOf [t] = [] := by unfold legsOf; simp [h]
def cntT (l : List Tr) : Nat := (l.filter numsT).length
theorem cnt_app (l m : List Tr) : cntT (l ++ m) = cntT l + cntT m := by unfold cntT; rw [List.filter_append, List.length_append]
theorem small_legs : ∀ (l : List Tr) (k : Ky), wm (qK (legsOf l) k) (l.length * 1048576) ∧ wm (cK (legsOf l) k) (l.length * 1125899906842624)
  | [], k => by unfold wm; exact ⟨by simp [legsOf, qK_nil], by simp [legsOf, cK_nil]⟩
  | t :: l, k => by
    obtain ⟨h1, h2⟩ := small_legs l k
    have e : legsOf (t :: l) = legsOf [t] ++ legsOf l := legsOf_app [t] l
    rw [e, qK_app, cK_app, List.length_cons]
    unfold wm at *
    by_cases h : numsT t = true
    · obtain ⟨s1, s2⟩ := qK_small h false k
      unfold wm at s1 s2
      rw [legsOf_one h]
      omega
    · rw [legsOf_no (by simpa using h), qK_nil, cK_nil]
      omega
/-- What stands behind them. -/
structure EntP (l : List Tr) (b : Bk) : Prop where
  right : rightB b = true
  next : b.1 = cntT l
  len : b.2.1.length = cntT l
  poss : b.2.2 = plA (sumK2 (legsOf l))
theorem EntP.nil : EntP [] bk0 := ⟨right_zero, rfl, rfl, by decide +kernel⟩
theorem ent_add (l m : List Po) : ∀ k, okK k = true → addF (plA (sumK2 l)) m k = sumK2 (l ++ m) k := fun k hk => by
  have := sum_pl (sumK2 l) k hk
  unfold sumK2 at this ⊢
  simp only [Prod.mk.injEq] at this
  unfold addF
  rw [qK_app, cK_app, this.1, this.2]
theorem fits_small {f : Ky → Int × Int} (h : ∀ k, wm (f k).1 (1000 * 1048576) ∧ wm (f k).2 (1000 * 1125899906842624)) : fits f = true := (fits_iff f).2 fun k _ => by
  obtain ⟨h1, h2⟩ := h k
  unfold wm at h1 h2
  rw [okQ_iff, isMoney_iff]
  omega
theorem EntP.may {l : List Tr} {b : Bk} (h : EntP l b) (hl : l.length ≤ 400) {t : Tr} (ht : numsT t = true) (hc : cntT l < 128) : enterE b t = 0 := by
  have hn := h.next
  have hlen := h.len
  refine enterE_ok.2 ⟨h.right, ht, by omega, by omega, addE_ok.2 ⟨h.right, legs_ok ht false, legs_flatI t false, ?_⟩⟩
  rw [h.poss, fits_congr (ent_add _ _)]
  refine fits_small fun k => ?_
  obtain ⟨a1, a2⟩ := small_legs l k
  obtain ⟨b1, b2⟩ := qK_small ht false k
  unfold sumK2
  simp only
  rw [qK_app, cK_app]
  unfold wm at *
  omega
theorem EntP.step {l : List Tr} {b : Bk} (h : EntP l b) {t : Tr} (he : enterE b t = 0) : EntP (l ++ [t]) (enterB b t) := by
  obtain ⟨h1, h2, h3, h4, h5⟩ := enterE_ok.1 he
  have hr := right_enter he
  rw [enterB_ok he] at hr ⊢
  have e1 : cntT [t] = 1 := by unfold cntT; simp [h2]
  refine ⟨hr, ?_, ?_, ?_⟩
  · show b.1 + 1 = _
    rw [h.next, cnt_app, e1]; omega
  · show (b.2.1 ++ [_]).length = _
    rw [List.length_append, h.len, cnt_app, e1]; rfl
  · show plA _ = _
    rw [legsOf_app, legsOf_one h2, h.poss]
    exact pl_congr (ent_add _ _)
theorem EntP.skip {l : List Tr} {b : Bk} (h : EntP l b) {t : Tr} (ht : numsT t = false) : EntP (l ++ [t]) b := by
  have e1 : cntT [t] = 0 := by unfold cntT; simp [ht]
  refine ⟨h.right, by rw [h.next, cnt_app, e1]; omega, by rw [h.len, cnt_app, e1, Nat.add_zero], by rw [h.poss, legsOf_app, legsOf_no ht, List.append_nil]⟩
/-! ### a book that is full -/
structure FullP (t : Tr) (i : Nat) (b : Bk) : Prop where
  ent : EntP (List.replicate i t) b
  trades : b.2.1 = (List.range i).map fun j : Nat => asNo t ((j : Int) + 1)
theorem FullP.zero (t : Tr) : FullP t 0 bk0 := ⟨EntP.nil, rfl⟩
theorem cnt_rep {t : Tr} (ht : numsT t = true) (i : Nat) : cntT (List.replicate i t) = i := by unfold cntT; rw [List.filter_replicate, ht]; simp
theorem FullP.may {t : Tr} {i : Nat} {b : Bk} (h : FullP t i b) (ht : numsT t = true) (hi : i < 128) : enterE b t = 0 ∧ enterN b t = (i : Int) + 1 ∧ FullP t (i + 1) (enterB b t) := by
  have he := h.ent.may (by rw [List.length_replicate]; omega) ht (by rw [cnt_rep ht]; exact hi)
  have hn := h.ent.next
  rw [cnt_rep ht] at hn
  refine ⟨he, by rw [enterN_ok he, hn], ?_, ?_⟩
  · have := h.ent.step he
    rw [show List.replicate (i + 1) t = List.replicate i t ++ [t] from List.replicate_succ']
    exact this
  · rw [enterB_ok he]
    show b.2.1 ++ [asNo t (b.1 + 1)] = _
    rw [h.trades, hn, List.range_succ, List.map_append]; rfl
theorem FullP.full {t : Tr} {b : Bk} (h : FullP t 128 b) (ht : numsT t = true) (u : Tr) (hu : numsT u = true) : enterE b u = 9 := by
  have hl := h.ent.len
  rw [cnt_rep ht] at hl
  unfold enterE
  rw [if_pos h.ent.right, if_pos hu, if_pos (by omega)]
theorem FullP.clear {t : Tr} {b : Bk} (h : FullP t 128 b) (ht : numsT t = true) : enterE (clearB b) t = 0 ∧ enterN (clearB b) t = 129 ∧ (enterB (clearB b) t).2.1.length = 1 := by
  have hn := h.ent.next
  rw [cnt_rep ht] at hn
  have hr := right_clear h.ent.right
  have he : enterE (clearB b) t = 0 := by
    refine enterE_ok.2 ⟨hr, ht, by simp [clearB], by show b.1 ≠ _; omega, addE_ok.2 ⟨hr, legs_ok ht false, legs_flatI t false, ?_⟩⟩
    show fits (addF b.2.2 _) = true
    rw [h.ent.poss, fits_congr (ent_add _ _)]
    refine fits_small fun k => ?_
    obtain ⟨a1, a2⟩ := small_legs (List.replicate 128 t) k
    obtain ⟨b1, b2⟩ := qK_small ht false k
    rw [List.length_replicate] at a1 a2
    unfold sumK2
    simp only
    rw [qK_app, cK_app]
    unfold wm at *
    omega
  refine ⟨he, ?_, ?_⟩
  · rw [enterN_ok he]; show b.1 + 1 = 129; omega
  · rw [enterB_ok he]; rfl
end Go.Proofs.Ytlbfljkhlkjcbaa.NumK
namespace Go.Proofs.Ytlbfljkhlkjcbaa.NumK
open Go.RowKit
set_option linter.unusedVariables false

/-- A block of the call's own: N cells that may be written. -/
def Slab (w : World) (g N : Nat) : Prop := g < w.heap.size ∧ ∀ k, k < N → (∃ v, w.cell? ⟨g, k, none⟩ = some v) ∧ w.frozen? ⟨g, k, none⟩ = false
theorem Slab.keep {w w' : World} {g N : Nat} (h : Slab w g N) (r : Grew w w') : Slab w' g N :=
  ⟨Nat.lt_of_lt_of_le h.1 r.size, fun k hk => by
    obtain ⟨⟨v, hv⟩, hf⟩ := h.2 k hk
    exact ⟨⟨v, (grew_cell r (p := ⟨g, k, none⟩) h.1).trans hv⟩, (Below.frozen r (p := ⟨g, k, none⟩) h.1).trans hf⟩⟩
theorem Slab.set {w : World} {g N : Nat} (h : Slab w g N) (b k : Nat) (x : Value) : Slab (w.setCell ⟨b, k, none⟩ x) g N :=
  ⟨by simpa [World.setCell] using h.1, fun i hi => by
    obtain ⟨⟨v, hv⟩, hf⟩ := h.2 i hi
    refine ⟨?_, by rw [World.frozen?_setCell]; exact hf⟩
    by_cases e : (⟨b, k, none⟩ : Addr) = ⟨g, i, none⟩
    · rw [e]; exact ⟨x, World.cell?_setCell_same _ _ _ hv⟩
    · exact ⟨v, by rw [World.cell?_setCell_other _ _ _ _ e]; exact hv⟩⟩
theorem OwnE.slab {α : Type} {E : En α} {w : World} {base : Nat} {t : TypeId} {v : Value} {l : List α} (h : OwnE E w base t v l) :
    ∃ A c, v = .slice A l.length c ∧ (l.length = 0 ∨ ∃ g, A = some ⟨g, 0, none⟩ ∧ base ≤ g ∧ Slab w g (l.length * E.size)) := by
  obtain ⟨hl, h⟩ := h
  rcases h with ⟨rfl, h0⟩ | ⟨g, cap, cur, rfl, hb, hh, hc, hm, hs, ht⟩
  · rw [h0]; exact ⟨none, 0, rfl, Or.inl rfl⟩
  · refine ⟨some ⟨g, 0, none⟩, cap, rfl, Or.inr ⟨g, rfl, hb, ?_, fun k hk => ⟨?_, ?_⟩⟩⟩
    · rcases Nat.lt_or_ge g w.heap.size with h1 | h1
      · exact h1
      · rw [Array.getElem?_eq_none h1] at hh; cases hh
    · rw [cell_of_row w g _ cur t (0, 0) hh]
      have hlt : k < cur.toList.length := by
        have e1 : (cur.toList.take (l.length * E.size)).length = l.length * E.size := by rw [ht, E.flat_len]
        rw [List.length_take] at e1; omega
      rw [← Array.getElem?_toList, List.getElem?_eq_getElem hlt]
      exact ⟨_, rfl⟩
    · unfold World.frozen?
      simp [hh]


/-! ### what has been mapped so far -/
def preL {α : Type} (f : α → α) (l : List α) (j : Nat) : List α := (l.take j).map f ++ l.drop j
end Go.Proofs.Ytlbfljkhlkjcbaa.NumK
