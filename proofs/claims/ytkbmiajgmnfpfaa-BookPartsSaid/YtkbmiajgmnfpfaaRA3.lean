/- Two rows of a call's own that grow side by side. -/
import Derived.Test.YtkbmiajgmnfpfaaRA2
import Derived.Deep.AppendLies
import Derived.Test.YtkbmiajgmnfpfaaRA
namespace Go.Proofs.Ytkbmiajgmnfpfaa.NumK
open Go.RowKit
set_option linter.unusedVariables false

structure Two {α β : Type} (E : En α) (F : En β) (w : World) (base : Nat) (s t : TypeId) (va vb : Value) (la : List α) (lb : List β) : Prop where
  a : OwnE E w base s va la
  b : OwnE F w base t vb lb
  ne : ∀ g, va.ownBlock = some g → vb.ownBlock ≠ some g

section
variable {α β : Type} {E : En α} {F : En β} {w w' : World} {base : Nat} {s t : TypeId} {va vb : Value} {la : List α} {lb : List β}
theorem Two.nil (E : En α) (F : En β) (w : World) (base : Nat) (s t : TypeId) : Two E F w base s t (.slice none 0 0) (.slice none 0 0) [] [] := ⟨OwnE.nil _ _ _ _, OwnE.nil _ _ _ _, fun g h => by cases h⟩
theorem Two.keep (h : Two E F w base s t va vb la lb) (g : Grew w w') : Two E F w' base s t va vb la lb := ⟨h.a.keep g, h.b.keep g, h.ne⟩
theorem Two.swap (h : Two E F w base s t va vb la lb) : Two F E w base t s vb va lb la := ⟨h.b, h.a, fun g h1 h2 => h.ne g h2 h1⟩
theorem Two.grown (h : Two E F w base s t va vb la lb) {x : List α} {v' : Value} (ho : OwnE E w' base s v' x) (hg : w.grownBy w' va.ownBlock) (hat : ∀ g, v'.ownBlock = some g → va.ownBlock = some g ∨ g = w.heap.size) : Two E F w' base s t v' vb x lb := by
  refine ⟨ho, World.ownsRow.kept h.b hg ?_, fun g h1 h2 => ?_⟩
  · cases hv : vb.ownBlock with
    | none => exact Or.inl rfl
    | some g => exact Or.inr fun e => h.ne g e.symm hv
  · rcases hat g h1 with h3 | h3
    · exact h.ne g h3 h2
    · have := (World.ownsRow.lt h.b g h2).2
      omega
theorem Two.below (h : Two E F w base s t va vb la lb) (hg : w.grownBy w' va.ownBlock) (hb : base ≤ w.heap.size) : Below base w w' := (Below.refl base w).grown hg hb fun k hk => (World.ownsRow.lt h.a k hk).1

/-- What one element in a block gives an append. -/
theorem news_one {N : Nat} {x : α} (h : RowE E w (some ⟨N, 0, none⟩) 1 [x]) : ∀ j u, (E.cs x)[j]? = some u → w.cell? ((⟨N, 0, none⟩ : Addr).add j) = some u := by
  intro j u hu
  obtain ⟨b, o, he, hb, hc⟩ := h.at (by omega)
  cases he
  have hj : j < E.size := by
    rw [← E.len x]
    rcases Nat.lt_or_ge j (E.cs x).length with h1 | h1
    · exact h1
    · rw [List.getElem?_eq_none h1] at hu; cases hu
  have := hc 0 (by simp) j hj
  rw [addr_add, ← hu]
  simpa using this
end

section
variable {α β : Type} {E : En α} {F : En β} {w : World} {base : Nat} {s t : TypeId} {va vb : Value} {la : List α} {lb : List β} {ops : Array Oper} {rest : List Oper} {o : Oper} {a : Act} {Q : Exit → Act → World → Prop} {K : Act → World → Prop} {X : Prop}
/-- One more in the first row. -/
theorem wpList_two (hgd : o.guard = none) (p q : Operand) (T : TypeId) (z : Value) (by' : Nat)
    (ho : o.op = .call { callee := .builtin .append, args := #[p, q], argTypes := #[T, T] })
    (hT : Try.prog.underlying T = some (.slice s)) (hi : (Try.prog.info? s).map (fun i => (i.zero, i.size, i.bytes)) = some (some z, E.size, by')) (hz : z.cells.size = E.size)
    (h : Two E F w base s t va vb la lb) (hs : a.eval p = va) (N : Nat) (x : α) (hx : a.eval q = .slice (some ⟨N, 0, none⟩) 1 1) (hR : RowE E w (some ⟨N, 0, none⟩) 1 [x])
    (hm : la.length + 1 ≤ maxLen) (hlim : (la.length + 1) * by' ≤ 140737488355328) (hbase : base ≤ w.heap.size)
    (k : ∀ v' w', Two E F w' base s t v' vb (la ++ [x]) lb → Below base w w' → wpList Try.prog ops Q rest (a.put o.dst v') w') : wpList Try.prog ops Q (o :: rest) a w := by
  obtain ⟨i, hi, hz0, hz1, hz2⟩ := info_parts hi
  refine wpList_append_lies w hgd p q T ho base s i z E.size by' hT hi hz0 hz1 hz2 hz E.pos va la.length _ hs h.a ⟨N, 0, none⟩ 1 1 (E.cs x) hx (by rw [E.len, Nat.one_mul]) (news_one hR) (E.one x) (by omega) hm hlim hbase _ rfl fun g cap w' h2 h3 h4 h5 => k _ w' (h.grown (va := va) ?_ h3 fun g' hg' => ?_) (h.below h3 hbase)
  · show w'.ownsRow base s E.size _ (la ++ [x]).length ((la ++ [x]).flatMap E.cs)
    rw [List.length_append, List.flatMap_append]
    simpa using h2
  · have : g = g' := by simpa [Value.ownBlock] using hg'
    subst this
    exact h4
theorem step_two (hgd : o.guard = none) (p q : Operand) (T : TypeId) (z : Value) (by' : Nat)
    (ho : o.op = .call { callee := .builtin .append, args := #[p, q], argTypes := #[T, T] })
    (hT : Try.prog.underlying T = some (.slice s)) (hi : (Try.prog.info? s).map (fun i => (i.zero, i.size, i.bytes)) = some (some z, E.size, by')) (hz : z.cells.size = E.size)
    (h : Two E F w base s t va vb la lb) (hs : a.eval p = va) (N : Nat) (x : α) (hx : a.eval q = .slice (some ⟨N, 0, none⟩) 1 1) (hR : RowE E w (some ⟨N, 0, none⟩) 1 [x])
    (hm : la.length + 1 ≤ maxLen) (hlim : (la.length + 1) * by' ≤ 140737488355328) (hbase : base ≤ w.heap.size)
    (k : ∀ v' w', Two E F w' base s t v' vb (la ++ [x]) lb → Below base w w' → w.grownBy w' va.ownBlock → K (a.put o.dst v') w') : if Region.wanted o (yielded ops a.tmps) = true then Oper.wp Try.prog o a w K Q else X := by
  obtain ⟨i, hi, hz0, hz1, hz2⟩ := info_parts hi
  refine step_append_lies w hgd p q T ho base s i z E.size by' hT hi hz0 hz1 hz2 hz E.pos va la.length _ hs h.a ⟨N, 0, none⟩ 1 1 (E.cs x) hx (by rw [E.len, Nat.one_mul]) (news_one hR) (E.one x) (by omega) hm hlim hbase _ rfl fun g cap w' h2 h3 h4 h5 => k _ w' (h.grown (va := va) ?_ h3 fun g' hg' => ?_) (h.below h3 hbase) h3
  · show w'.ownsRow base s E.size _ (la ++ [x]).length ((la ++ [x]).flatMap E.cs)
    rw [List.length_append, List.flatMap_append]
    simpa using h2
  · have : g = g' := by simpa [Value.ownBlock] using hg'
    subst this
    exact h4
end
/-- A row in another block than the one that was appended to. -/
theorem RowE.grown {α : Type} {E : En α} {w w' : World} {N n : Nat} {l : List α} {row : Option Nat} (h : RowE E w (some ⟨N, 0, none⟩) n l) (g : w.grownBy w' row) (hne : some N ≠ row) : RowE E w' (some ⟨N, 0, none⟩) n l := by
  refine ⟨h.len, fun hn => ?_⟩
  obtain ⟨b, o, e, hb, hc⟩ := h.at hn
  cases e
  exact ⟨N, 0, rfl, Nat.lt_of_lt_of_le hb g.size, fun j hj => ⟨_, rfl, fun i hi => (g.cell_far ⟨N, _, none⟩ hb hne).trans (hc j hj i hi)⟩⟩
theorem Two.far {α β : Type} {E : En α} {F : En β} {w : World} {base : Nat} {s t : TypeId} {va vb : Value} {la : List α} {lb : List β} (h : Two E F w base s t va vb la lb) {N : Nat} (hN : w.heap.size ≤ N) : some N ≠ va.ownBlock ∧ some N ≠ vb.ownBlock :=
  ⟨fun e => by have := (World.ownsRow.lt h.a N e.symm).2; omega, fun e => by have := (World.ownsRow.lt h.b N e.symm).2; omega⟩
/-- One element in a block made now. -/
theorem RowE.one1 {α : Type} (E : En α) (w : World) (x : α) (t : TypeId) (cs : Array Value) (N : Nat) (hN : N = w.heap.size) (hc : cs = (E.cs x).toArray) : RowE E (w.alloc (.cells cs t)) (some ⟨N, 0, none⟩) 1 [x] := by
  subst hN; subst hc
  refine ⟨rfl, fun _ => ⟨_, _, rfl, by simp, fun j hj => ⟨_, rfl, fun i hi => ?_⟩⟩⟩
  have hj : j < 1 := hj
  obtain rfl : j = 0 := by omega
  show World.cell? _ ⟨_, 0 + 0 * E.size + i, none⟩ = _
  rw [Nat.zero_mul, Nat.zero_add, World.cell?_alloc_at _ _ _ _ rfl]
  simp
end Go.Proofs.Ytkbmiajgmnfpfaa.NumK
namespace Go.Proofs.Ytkbmiajgmnfpfaa.NumK
open Go.RowKit
set_option linter.unusedVariables false

structure Fam {κ α : Type} (E : En α) (w : World) (base : Nat) (t : TypeId) (v : κ → Value) (rows : κ → List α) : Prop where
  own : ∀ k, OwnE E w base t (v k) (rows k)
  ne : ∀ k k', k ≠ k' → ∀ g, (v k).ownBlock = some g → (v k').ownBlock ≠ some g

def upd {κ β : Type} [DecidableEq κ] (f : κ → β) (k : κ) (x : β) : κ → β := fun i => if i = k then x else f i
theorem upd_at {κ β : Type} [DecidableEq κ] (f : κ → β) (k : κ) (x : β) : upd f k x k = x := if_pos rfl
theorem upd_ne {κ β : Type} [DecidableEq κ] (f : κ → β) {k i : κ} (x : β) (h : i ≠ k) : upd f k x i = f i := if_neg h

section
variable {κ α : Type} {E : En α} {w w' : World} {base : Nat} {t : TypeId} {v : κ → Value} {rows : κ → List α}
theorem Fam.nil (E : En α) (w : World) (base : Nat) (t : TypeId) : Fam (κ := κ) E w base t (fun _ => .slice none 0 0) (fun _ => []) := ⟨fun _ => OwnE.nil _ _ _ _, fun _ _ _ g h => by cases h⟩
theorem Fam.keep (h : Fam E w base t v rows) (g : Grew w w') : Fam E w' base t v rows := ⟨fun k => (h.own k).keep g, h.ne⟩
theorem Fam.mono {b2 : Nat} (h : Fam E w base t v rows) (hb : b2 ≤ base) : Fam E w b2 t v rows := ⟨fun k => (h.own k).mono hb, h.ne⟩
theorem Fam.congr {r2 : κ → List α} (h : Fam E w base t v rows) (e : ∀ k, rows k = r2 k) : Fam E w base t v r2 := ⟨fun k => e k ▸ h.own k, h.ne⟩
theorem Fam.kept (h : Fam E w base t v rows) {b : Nat} (hg : w.grownBy w' (some b)) (hb : ∀ k, (v k).ownBlock ≠ some b) : Fam E w' base t v rows :=
  ⟨fun k => World.ownsRow.kept (h.own k) hg (Or.inr (hb k)), h.ne⟩
theorem Fam.below (h : Fam E w base t v rows) (k : κ) (hg : w.grownBy w' (v k).ownBlock) (hb : base ≤ w.heap.size) : Below base w w' := (Below.refl base w).grown hg hb fun i hi => (World.ownsRow.lt (h.own k) i hi).1
theorem Fam.lt (h : Fam E w base t v rows) (k : κ) {g : Nat} (hg : (v k).ownBlock = some g) : base ≤ g ∧ g < w.heap.size := World.ownsRow.lt (h.own k) g hg
end
section
variable {κ α : Type} [DecidableEq κ] {E : En α} {w w' : World} {base : Nat} {t : TypeId} {v : κ → Value} {rows : κ → List α}
theorem Fam.grown (h : Fam E w base t v rows) (k : κ) {x : List α} {v' : Value} (ho : OwnE E w' base t v' x) (hg : w.grownBy w' (v k).ownBlock) (hat : ∀ g, v'.ownBlock = some g → (v k).ownBlock = some g ∨ g = w.heap.size) :
    Fam E w' base t (upd v k v') (upd rows k x) := by
  have hk : ∀ i, i ≠ k → ∀ g, v'.ownBlock = some g → (v i).ownBlock ≠ some g := fun i hi g h1 h2 => by
    rcases hat g h1 with h3 | h3
    · exact h.ne i k hi g h2 h3
    · have := (World.ownsRow.lt (h.own i) g h2).2; omega
  refine ⟨fun i => ?_, fun i j hij g h1 h2 => ?_⟩
  · by_cases e : i = k
    · subst e; rw [upd_at, upd_at]; exact ho
    · rw [upd_ne _ _ e, upd_ne _ _ e]
      refine World.ownsRow.kept (h.own i) hg ?_
      cases hv : (v i).ownBlock with
      | none => exact Or.inl rfl
      | some g => exact Or.inr fun e2 => h.ne i k e g hv e2.symm
  · by_cases e1 : i = k
    · subst e1
      rw [upd_at] at h1
      rw [upd_ne _ _ (Ne.symm hij)] at h2
      exact hk j (Ne.symm hij) g h1 h2
    · rw [upd_ne _ _ e1] at h1
      by_cases e2 : j = k
      · subst e2
        rw [upd_at] at h2
        exact hk i e1 g h2 h1
      · rw [upd_ne _ _ e2] at h2
        exact h.ne i j hij g h1 h2
end

section
variable {κ α : Type} [DecidableEq κ] {E : En α} {w : World} {base : Nat} {t : TypeId} {v : κ → Value} {rows : κ → List α} {ops : Array Oper} {rest : List Oper} {o : Oper} {a : Act} {Q : Exit → Act → World → Prop} {K : Act → World → Prop} {X : Prop}
/-- One more in the row of a key: a step of a region that draws. -/
theorem step_fam (key : κ) (hgd : o.guard = none) (p q : Operand) (T : TypeId) (z : Value) (by' : Nat)
    (ho : o.op = .call { callee := .builtin .append, args := #[p, q], argTypes := #[T, T] })
    (hT : Try.prog.underlying T = some (.slice t)) (hi : (Try.prog.info? t).map (fun i => (i.zero, i.size, i.bytes)) = some (some z, E.size, by')) (hz : z.cells.size = E.size)
    (h : Fam E w base t v rows) (hs : a.eval p = v key) (N : Nat) (x : α) (hx : a.eval q = .slice (some ⟨N, 0, none⟩) 1 1) (hR : RowE E w (some ⟨N, 0, none⟩) 1 [x])
    (hm : (rows key).length + 1 ≤ maxLen) (hlim : ((rows key).length + 1) * by' ≤ 140737488355328) (hbase : base ≤ w.heap.size)
    (k : ∀ v' w', Fam E w' base t (upd v key v') (upd rows key (rows key ++ [x])) → Below base w w' → w.grownBy w' (v key).ownBlock → K (a.put o.dst v') w') : if Region.wanted o (yielded ops a.tmps) = true then Oper.wp Try.prog o a w K Q else X := by
  obtain ⟨i, hi, hz0, hz1, hz2⟩ := info_parts hi
  refine step_append_lies w hgd p q T ho base t i z E.size by' hT hi hz0 hz1 hz2 hz E.pos (v key) (rows key).length _ hs (h.own key) ⟨N, 0, none⟩ 1 1 (E.cs x) hx (by rw [E.len, Nat.one_mul]) (news_one hR) (E.one x) (by omega) hm hlim hbase _ rfl fun g cap w' h2 h3 h4 h5 => k _ w' (h.grown key ?_ h3 fun g' hg' => ?_) (h.below key h3 hbase) h3
  · show w'.ownsRow base t E.size _ (rows key ++ [x]).length ((rows key ++ [x]).flatMap E.cs)
    rw [List.length_append, List.flatMap_append]
    simpa using h2
  · have : g = g' := by simpa [Value.ownBlock] using hg'
    subst this
    exact h4
end
/-- A cell of a block that no row of the family lies in. -/
theorem Fam.far {κ α : Type} {E : En α} {w w' : World} {base : Nat} {t : TypeId} {v : κ → Value} {rows : κ → List α} (h : Fam E w base t v rows) {k : κ} (hg : w.grownBy w' (v k).ownBlock) {b : Nat} (hb : b < w.heap.size) (hne : b < base) (i : Nat) :
    w'.cell? ⟨b, i, none⟩ = w.cell? ⟨b, i, none⟩ ∧ w'.frozen? ⟨b, i, none⟩ = w.frozen? ⟨b, i, none⟩ := by
  have hn : some b ≠ (v k).ownBlock := fun e => by have := (World.ownsRow.lt (h.own k) b e.symm).1; omega
  exact ⟨hg.cell_far ⟨b, i, none⟩ hb hn, hg.frozen_far ⟨b, i, none⟩ hb hn⟩
end Go.Proofs.Ytkbmiajgmnfpfaa.NumK
namespace Go.Proofs.Ytkbmiajgmnfpfaa.NumK
open Go.RowKit
set_option linter.unusedVariables false

theorem own_form {α : Type} {E : En α} {w : World} {base : Nat} {t : TypeId} {A : Option Addr} {n c : Nat} {l : List α} (h : OwnE E w base t (.slice A n c) l) : RowE E w A l.length l ∧ (A = none → c = 0) ∧ l.length ≤ c ∧ c ≤ 9223372036854775807 := by
  obtain ⟨A', c', e, hr, hn, h1, h2⟩ := h.form
  cases e
  exact ⟨hr, hn, h1, by unfold maxLen at h2; omega⟩
theorem OwnE.block {α : Type} {E : En α} {w : World} {base : Nat} {t : TypeId} {A : Option Addr} {n c : Nat} {l : List α} (h : OwnE E w base t (.slice A n c) l) : ∀ x, A = some x → base ≤ x.block ∧ x.block < w.heap.size := by
  intro x hx
  subst hx
  exact World.ownsRow.lt h x.block rfl
/-- Not in one block. -/
def Apart (A B : Option Addr) : Prop := ∀ x y, A = some x → B = some y → x.block ≠ y.block
theorem apart_of {A B : Option Addr} {m p q n : Nat} (h1 : ∀ x, A = some x → m ≤ x.block ∧ x.block < p) (h2 : ∀ x, B = some x → q ≤ x.block ∧ x.block < n) (h : p ≤ q) : Apart A B := fun x y hx hy => by
  have := h1 x hx; have := h2 y hy; omega
end Go.Proofs.Ytkbmiajgmnfpfaa.NumK
namespace Go.Proofs.Ytkbmiajgmnfpfaa.NumK
open Go.RowKit
set_option linter.unusedVariables false

def enInt : En Int := ⟨1, fun n => [.int .i64 n], fun _ => rfl, fun n v hv => by simp at hv; rw [hv]; rfl, by decide⟩
theorem info_int1 : (Try.prog.info? 3).map (fun i => (i.zero, i.size, i.bytes)) = some (some (.int .i64 0), 1, 8) := by kernel_rfl
theorem ints_of_E {w : World} {A : Option Addr} {n : Nat} {l : List Int} (h : RowE enInt w A n l) : Ints w A n l := by
  refine ⟨h.len, fun hn => ?_⟩
  obtain ⟨b, o, e, hb, hc⟩ := h.at hn
  refine ⟨b, o, e, hb, fun j hj => ?_⟩
  have hj2 : j < l.length := by rw [h.len]; exact hj
  have := hc j hj2 0 (by decide)
  rw [show o + j * enInt.size + 0 = o + j by show o + j * 1 + 0 = _; omega] at this
  rw [this]
  simp [enInt, List.getD, hj2]

end Go.Proofs.Ytkbmiajgmnfpfaa.NumK
namespace Go.Proofs.Ytkbmiajgmnfpfaa.NumK
open Go.RowKit
set_option linter.unusedVariables false

theorem rwithin_any (n lo hi : Int) (w : World) : Calls Try.prog 36 #[.int .i64 n, .int .i64 lo, .int .i64 hi] w fun e w' => e = .returned (.bool (wi n lo hi)) ∧ w = w' := by
  by_cases h1 : lo ≤ n <;> by_cases h2 : n ≤ hi
  all_goals
    (have HR : Hid (wi n lo hi = (decide (lo ≤ n) && decide (n ≤ hi))) := rfl
     generalize wi n lo hi = R at *
     simp only [h1, h2, decide_true, decide_false, Bool.and_true, Bool.and_false] at HR
     go_enter Try.func36, Try.ntmps36
     go_wp2
     go_ret
     exact ⟨ret_b HR.out.symm, rfl⟩)
theorem rwho_any (n : Int) (w : World) : Calls Try.prog 62 #[.int .i64 n] w fun e w' => e = .returned (.bool (wi n 1 16)) ∧ w = w' := by
  have CW := fun w => rwithin_any n 1 16 w
  generalize wi n 1 16 = R at *
  go_enter Try.func62, Try.ntmps62
  go_wp2_with (go_at_call 36; ((with_reducible refine (CW _).mono ?_); rintro e w1 ⟨rfl, rfl⟩))
  go_ret
  exact ⟨rfl, rfl⟩
end Go.Proofs.Ytkbmiajgmnfpfaa.NumK
