/- Two rows of a call's own that grow side by side. -/
import Derived.Test.YtgblhliinjgofaaRA2
import Derived.Deep.AppendLies
import Derived.Test.YtgblhliinjgofaaRB
namespace Go.Proofs.Ytgblhliinjgofaa.NumK
open Go.RowKit
set_option linter.unusedVariables false

structure Two {α β : Type} (E : En α) (F : En β) (w : World) (base : Nat) (s t : TypeId) (va vb : Value) (la : List α) (lb : List β) : Prop where
  a : OwnE E w base s va la
  b : OwnE F w base t vb lb
  ne : ∀ g, va.ownBlock = some g → vb.ownBlock ≠ some g

section
variable {α β : Type} {E : En α} {F : En β} {w w' : World} {base : Nat} {s t : TypeId} {va vb : Value} {la : List α} {lb : List β}
theorem Two.nil (E : En α) (F : En β) (w : World) (base : Nat) (s t : TypeId) : Two E F w base s t (.slice none 0 0) (.slice none 0 0) [] [] := ⟨OwnE.nil _ _ _ _, OwnE.nil _ _ _ _, fun g h => by cases h⟩
theorem Two.keep (h : Two E F w base s t va vb la lb) (g : Grew w w') : Two E F w' base s t va vb la lb := ⟨h.a.keep g, h.b.keep g, h.ne⟩
theorem Two.swap (h : Two E F w base s t va vb la lb) : Two F E w base t s vb va lb la := ⟨h.b, h.a, fun g h1 h2 => h.ne g h2 h1⟩
theorem Two.grown (h : Two E F w base s t va vb la lb) {x : List α} {v' : Value} (ho : OwnE E w' base s v' x) (hg : w.grownBy w' va.ownBlock) (hat : ∀ g, v'.ownBlock = some g → va.ownBlock = some g ∨ g = w.heap.size) : Two E F w' base s t v' vb x lb := by
  refine ⟨ho, World.ownsRow.kept h.b hg ?_, fun g h1 h2 => ?_⟩
  · cases hv : vb.ownBlock with
    | none => exact Or.inl rfl
    | some g => exact Or.inr fun e => h.ne g e.symm hv
  · rcases hat g h1 with h3 | h3
    · exact h.ne g h3 h2
    · have := (World.ownsRow.lt h.b g h2).2
      omega
theorem Two.below (h : Two E F w base s t va vb la lb) (hg : w.grownBy w' va.ownBlock) (hb : base ≤ w.heap.size) : Below base w w' := (Below.refl base w).grown hg hb fun k hk => (World.ownsRow.lt h.a k hk).1

/-- What one element in a block gives an append. -/
theorem news_one {N : Nat} {x : α} (h : RowE E w (some ⟨N, 0, none⟩) 1 [x]) : ∀ j u, (E.cs x)[j]? = some u → w.cell? ((⟨N, 0, none⟩ : Addr).add j) = some u := by
  intro j u hu
  obtain ⟨b, o, he, hb, hc⟩ := h.at (by omega)
  cases he
  have hj : j < E.size := by
    rw [← E.len x]
    rcases Nat.lt_or_ge j (E.cs x).length with h1 | h1
    · exact h1
    · rw [List.getElem?_eq_none h1] at hu; cases hu
  have := hc 0 (by simp) j hj
  rw [addr_add, ← hu]
  simpa using this
end

section
variable {α β : Type} {E : En α} {F : En β} {w : World} {base : Nat} {s t : TypeId} {va vb : Value} {la : List α} {lb : List β} {ops : Array Oper} {rest : List Oper} {o : Oper} {a : Act} {Q : Exit → Act → World → Prop} {K : Act → World → Prop} {X : Prop}
/-- One more in the first row. -/
theorem wpList_two (hgd : o.guard = none) (p q : Operand) (T : TypeId) (z : Value) (by' : Nat)
    (ho : o.op = .call { callee := .builtin .append, args := #[p, q], argTypes := #[T, T] })
    (hT : Try.prog.underlying T = some (.slice s)) (hi : (Try.prog.info? s).map (fun i => (i.zero, i.size, i.bytes)) = some (some z, E.size, by')) (hz : z.cells.size = E.size)
    (h : Two E F w base s t va vb la lb) (hs : a.eval p = va) (N : Nat) (x : α) (hx : a.eval q = .slice (some ⟨N, 0, none⟩) 1 1) (hR : RowE E w (some ⟨N, 0, none⟩) 1 [x])
    (hm : la.length + 1 ≤ maxLen) (hlim : (la.length + 1) * by' ≤ 140737488355328) (hbase : base ≤ w.heap.size)
    (k : ∀ v' w', Two E F w' base s t v' vb (la ++ [x]) lb → Below base w w' → wpList Try.prog ops Q rest (a.put o.dst v') w') : wpList Try.prog ops Q (o :: rest) a w := by
  obtain ⟨i, hi, hz0, hz1, hz2⟩ := info_parts hi
  refine wpList_append_lies w hgd p q T ho base s i z E.size by' hT hi hz0 hz1 hz2 hz E.pos va la.length _ hs h.a ⟨N, 0, none⟩ 1 1 (E.cs x) hx (by rw [E.len, Nat.one_mul]) (news_one hR) (E.one x) (by omega) hm hlim hbase _ rfl fun g cap w' h2 h3 h4 h5 => k _ w' (h.grown (va := va) ?_ h3 fun g' hg' => ?_) (h.below h3 hbase)
  · show w'.ownsRow base s E.size _ (la ++ [x]).length ((la ++ [x]).flatMap E.cs)
    rw [List.length_append, List.flatMap_append]
    simpa using h2
  · have : g = g' := by simpa [Value.ownBlock] using hg'
    subst this
    exact h4
theorem step_two (hgd : o.guard = none) (p q : Operand) (T : TypeId) (z : Value) (by' : Nat)
    (ho : o.op = .call { callee := .builtin .append, args := #[p, q], argTypes := #[T, T] })
    (hT : Try.prog.underlying T = some (.slice s)) (hi : (Try.prog.info? s).map (fun i => (i.zero, i.size, i.bytes)) = some (some z, E.size, by')) (hz : z.cells.size = E.size)
    (h : Two E F w base s t va vb la lb) (hs : a.eval p = va) (N : Nat) (x : α) (hx : a.eval q = .slice (some ⟨N, 0, none⟩) 1 1) (hR : RowE E w (some ⟨N, 0, none⟩) 1 [x])
    (hm : la.length + 1 ≤ maxLen) (hlim : (la.length + 1) * by' ≤ 140737488355328) (hbase : base ≤ w.heap.size)
    (k : ∀ v' w', Two E F w' base s t v' vb (la ++ [x]) lb → Below base w w' → w.grownBy w' va.ownBlock → K (a.put o.dst v') w') : if Region.wanted o (yielded ops a.tmps) = true then Oper.wp Try.prog o a w K Q else X := by
  obtain ⟨i, hi, hz0, hz1, hz2⟩ := info_parts hi
  refine step_append_lies w hgd p q T ho base s i z E.size by' hT hi hz0 hz1 hz2 hz E.pos va la.length _ hs h.a ⟨N, 0, none⟩ 1 1 (E.cs x) hx (by rw [E.len, Nat.one_mul]) (news_one hR) (E.one x) (by omega) hm hlim hbase _ rfl fun g cap w' h2 h3 h4 h5 => k _ w' (h.grown (va := va) ?_ h3 fun g' hg' => ?_) (h.below h3 hbase) h3
  · show w'.ownsRow base s E.size _ (la ++ [x]).length ((la ++ [x]).flatMap E.cs)
    rw [List.length_append, List.flatMap_append]
    simpa using h2
  · have : g = g' := by simpa [Value.ownBlock] using hg'
    subst this
    exact h4
end
/-- A row in another block than the one that was appended to. -/
theorem RowE.grown {α : Type} {E : En α} {w w' : World} {N n : Nat} {l : List α} {row : Option Nat} (h : RowE E w (some ⟨N, 0, none⟩) n l) (g : w.grownBy w' row) (hne : some N ≠ row) : RowE E w' (some ⟨N, 0, none⟩) n l := by
  refine ⟨h.len, fun hn => ?_⟩
  obtain ⟨b, o, e, hb, hc⟩ := h.at hn
  cases e
  exact ⟨N, 0, rfl, Nat.lt_of_lt_of_le hb g.size, fun j hj => ⟨_, rfl, fun i hi => (g.cell_far ⟨N, _, none⟩ hb hne).trans (hc j hj i hi)⟩⟩
theorem Two.far {α β : Type} {E : En α} {F : En β} {w : World} {base : Nat} {s t : TypeId} {va vb : Value} {la : List α} {lb : List β} (h : Two E F w base s t va vb la lb) {N : Nat} (hN : w.heap.size ≤ N) : some N ≠ va.ownBlock ∧ some N ≠ vb.ownBlock :=
  ⟨fun e => by have := (World.ownsRow.lt h.a N e.symm).2; omega, fun e => by have := (World.ownsRow.lt h.b N e.symm).2; omega⟩
/-- One element in a block made now. -/
theorem RowE.one1 {α : Type} (E : En α) (w : World) (x : α) (t : TypeId) (cs : Array Value) (N : Nat) (hN : N = w.heap.size) (hc : cs = (E.cs x).toArray) : RowE E (w.alloc (.cells cs t)) (some ⟨N, 0, none⟩) 1 [x] := by
  subst hN; subst hc
  refine ⟨rfl, fun _ => ⟨_, _, rfl, by simp, fun j hj => ⟨_, rfl, fun i hi => ?_⟩⟩⟩
  have hj : j < 1 := hj
  obtain rfl : j = 0 := by omega
  show World.cell? _ ⟨_, 0 + 0 * E.size + i, none⟩ = _
  rw [Nat.zero_mul, Nat.zero_add, World.cell?_alloc_at _ _ _ _ rfl]
  simp
end Go.Proofs.Ytgblhliinjgofaa.NumK
namespace Go.Proofs.Ytgblhliinjgofaa.NumK
open Go.RowKit
set_option linter.unusedVariables false

def enPo : En Po := ⟨4, fun x => [.int .i64 x.1, .int .i64 x.2.1, .int .i64 x.2.2.1, .int .i64 x.2.2.2], fun _ => rfl, fun a v hv => by
  simp at hv; rcases hv with rfl | rfl | rfl | rfl <;> rfl, by decide⟩
def enTr : En Tr := ⟨7, fun t => [.int .i64 t.1.1, .int .i64 t.1.2.1, .int .i64 t.1.2.2.1, .int .i64 t.1.2.2.2.1, .int .i64 t.1.2.2.2.2.1, .int .i64 t.1.2.2.2.2.2, .bool t.2], fun _ => rfl, fun a v hv => by
  simp at hv; rcases hv with rfl | rfl | rfl | rfl | rfl | rfl | rfl <;> rfl, by decide⟩
abbrev vPo (x : Po) : Value := .agg #[.int .i64 x.1, .int .i64 x.2.1, .int .i64 x.2.2.1, .int .i64 x.2.2.2]
abbrev vTr (t : Tr) : Value := .agg #[.int .i64 t.1.1, .int .i64 t.1.2.1, .int .i64 t.1.2.2.1, .int .i64 t.1.2.2.2.1, .int .i64 t.1.2.2.2.2.1, .int .i64 t.1.2.2.2.2.2, .bool t.2]
theorem info_po : (Try.prog.info? 48).map (fun i => (i.zero, i.size, i.bytes)) = some (some (vPo po0), 4, 32) := by kernel_rfl

def CPo (w : World) (b p : Nat) (x : Po) : Prop :=
  w.cell? ⟨b, p, none⟩ = some (.int .i64 x.1) ∧ w.cell? ⟨b, p + 1, none⟩ = some (.int .i64 x.2.1) ∧ w.cell? ⟨b, p + 2, none⟩ = some (.int .i64 x.2.2.1) ∧ w.cell? ⟨b, p + 3, none⟩ = some (.int .i64 x.2.2.2)
theorem CPo.keep {w w' : World} {b p : Nat} {x : Po} (h : CPo w b p x) (g : Grew w w') (hb : b < w.heap.size) : CPo w' b p x :=
  ⟨(grew_cell g (p := ⟨b, _, none⟩) hb).trans h.1, (grew_cell g (p := ⟨b, _, none⟩) hb).trans h.2.1, (grew_cell g (p := ⟨b, _, none⟩) hb).trans h.2.2.1, (grew_cell g (p := ⟨b, _, none⟩) hb).trans h.2.2.2⟩
theorem RowE.po {w : World} {n : Nat} {l : List Po} {A : Option Addr} (h : RowE enPo w A n l) {j : Nat} (hj : j < n) : ∃ b o, A = some ⟨b, o, none⟩ ∧ b < w.heap.size ∧ ∀ j, j < n → CPo w b (o + j * 4) (l.getD j po0) := by
  have hl := h.len
  obtain ⟨b, o, e, hb, hc⟩ := h.at (by omega)
  refine ⟨b, o, e, hb, fun j hj => ?_⟩
  have hj' : j < l.length := by omega
  rw [getD_at l po0 j hj']
  exact ⟨hc j hj' 0 (by decide), hc j hj' 1 (by decide), hc j hj' 2 (by decide), hc j hj' 3 (by decide)⟩
def CTr (w : World) (b p : Nat) (t : Tr) : Prop :=
  w.cell? ⟨b, p, none⟩ = some (.int .i64 t.1.1) ∧ w.cell? ⟨b, p + 1, none⟩ = some (.int .i64 t.1.2.1) ∧ w.cell? ⟨b, p + 2, none⟩ = some (.int .i64 t.1.2.2.1) ∧ w.cell? ⟨b, p + 3, none⟩ = some (.int .i64 t.1.2.2.2.1)
  ∧ w.cell? ⟨b, p + 4, none⟩ = some (.int .i64 t.1.2.2.2.2.1) ∧ w.cell? ⟨b, p + 5, none⟩ = some (.int .i64 t.1.2.2.2.2.2) ∧ w.cell? ⟨b, p + 6, none⟩ = some (.bool t.2)
theorem CTr.keep {w w' : World} {b p : Nat} {t : Tr} (h : CTr w b p t) (g : Grew w w') (hb : b < w.heap.size) : CTr w' b p t := by
  obtain ⟨h0, h1, h2, h3, h4, h5, h6⟩ := h
  exact ⟨(grew_cell g (p := ⟨b, _, none⟩) hb).trans h0, (grew_cell g (p := ⟨b, _, none⟩) hb).trans h1, (grew_cell g (p := ⟨b, _, none⟩) hb).trans h2, (grew_cell g (p := ⟨b, _, none⟩) hb).trans h3,
    (grew_cell g (p := ⟨b, _, none⟩) hb).trans h4, (grew_cell g (p := ⟨b, _, none⟩) hb).trans h5, (grew_cell g (p := ⟨b, _, none⟩) hb).trans h6⟩
theorem RowE.tr {w : World} {n : Nat} {l : List Tr} {A : Option Addr} (h : RowE enTr w A n l) {j : Nat} (hj : j < n) : ∃ b o, A = some ⟨b, o, none⟩ ∧ b < w.heap.size ∧ ∀ j, j < n → CTr w b (o + j * 7) (l.getD j tr0) := by
  have hl := h.len
  obtain ⟨b, o, e, hb, hc⟩ := h.at (by omega)
  refine ⟨b, o, e, hb, fun j hj => ?_⟩
  have hj' : j < l.length := by omega
  rw [getD_at l tr0 j hj']
  exact ⟨hc j hj' 0 (by decide), hc j hj' 1 (by decide), hc j hj' 2 (by decide), hc j hj' 3 (by decide), hc j hj' 4 (by decide), hc j hj' 5 (by decide), hc j hj' 6 (by decide)⟩

/-- A slice literal is a row of the call's own. -/
theorem OwnE.lit {α : Type} (E : En α) (w : World) (l : List α) (t : TypeId) (cs : Array Value) (N : Nat) (hN : N = w.heap.size) (hc : cs.toList = l.flatMap E.cs) (hm : l.length * E.size ≤ maxLen) :
    OwnE E (w.alloc (.cells cs t)) w.heap.size t (.slice (some ⟨N, 0, none⟩) l.length l.length) l := by
  subst hN
  have hs : cs.size = l.length * E.size := by rw [← Array.length_toList, hc, E.flat_len]
  have hp : l.length ≤ l.length * E.size := Nat.le_mul_of_pos_right _ E.pos
  exact ⟨by rw [E.flat_len], .inr ⟨w.heap.size, l.length, cs, rfl, Nat.le_refl _, heap_alloc_new w _, Nat.le_refl _, by omega, hs, by rw [hc, List.take_of_length_le (by rw [E.flat_len]; exact Nat.le_refl _)]⟩⟩

set_option maxRecDepth 100000 in
theorem tright_any (t : Tr) (w : World) : Calls Try.prog 24 #[vTr t] w fun e w' => e = .returned (.bool (sizedT t)) ∧ Grew w w' := by
  obtain ⟨⟨q1, q2, q3, q4, q5, q6⟩, q7⟩ := t
  have HV : Hid (sizedT ((q1, q2, q3, q4, q5, q6), q7) = ((decide (1 ≤ q5) && decide (q5 ≤ 1048576)) && (decide (1 ≤ q6) && decide (q6 ≤ 1073741824)))) := rfl
  generalize sizedT ((q1, q2, q3, q4, q5, q6), q7) = V at *
  dsimp only [vTr]
  by_cases h1 : 1 ≤ q5
  · by_cases h2 : q5 ≤ 1048576
    · by_cases h3 : 1 ≤ q6
      · by_cases h4 : q6 ≤ 1073741824
        all_goals
          (have HF := Lib.hid HV.out
           simp only [h1, h2, h3, h4, decide_true, decide_false, Bool.and_true, Bool.and_false] at HF
           clear HV
           go_enter Try.func24, Try.ntmps24
           go_wp2
           go_ret
           exact ⟨ret_b HF.out.symm, grew_alloc _ _ _⟩)
      · have HF : Hid (V = false) := by show _ = _; rw [HV.out, decide_eq_false h3]; simp
        clear HV
        go_enter Try.func24, Try.ntmps24
        go_wp2
        go_ret
        exact ⟨ret_b HF.out.symm, grew_alloc _ _ _⟩
    · have HF : Hid (V = false) := by show _ = _; rw [HV.out, decide_eq_false h2]; simp
      clear HV
      go_enter Try.func24, Try.ntmps24
      go_wp2
      go_ret
      exact ⟨ret_b HF.out.symm, grew_alloc _ _ _⟩
  · have HF : Hid (V = false) := by show _ = _; rw [HV.out, decide_eq_false h1]; simp
    clear HV
    go_enter Try.func24, Try.ntmps24
    go_wp2
    go_ret
    exact ⟨ret_b HF.out.symm, grew_alloc _ _ _⟩

set_option maxRecDepth 100000 in
theorem rsized_any (t : Tr) (w : World) : Calls Try.prog 28 #[vTr t] w fun e w' => e = .returned (.bool (sizedT t)) ∧ Grew w w' := by
  obtain ⟨⟨q1, q2, q3, q4, q5, q6⟩, q7⟩ := t
  have HV : Hid (sizedT ((q1, q2, q3, q4, q5, q6), q7) = (wi q5 1 1048576 && wi q6 1 1073741824)) := rfl
  have CW1 := fun w => rwithin_any q5 1 1048576 w
  have CW2 := fun w => rwithin_any q6 1 1073741824 w
  generalize sizedT ((q1, q2, q3, q4, q5, q6), q7) = V at *
  generalize wi q5 1 1048576 = R1 at *
  generalize wi q6 1 1073741824 = R2 at *
  dsimp only [vTr]
  cases R1
  · have HF : Hid (V = false) := by show _ = _; rw [HV.out]; rfl
    clear HV
    go_enter Try.func28, Try.ntmps28
    go_wp2_with (go_at_call 52; ((with_reducible refine (CW1 _).mono ?_); rintro e w1 ⟨rfl, rfl⟩))
    go_ret
    exact ⟨ret_b HF.out.symm, grew_alloc _ _ _⟩
  · have HF : Hid (V = R2) := by show _ = _; rw [HV.out]; rfl
    clear HV
    go_enter Try.func28, Try.ntmps28
    go_wp2_with (first
      | (go_at_call 52; ((with_reducible refine (CW1 _).mono ?_); rintro e w1 ⟨rfl, rfl⟩))
      | (go_at_call 52; ((with_reducible refine (CW2 _).mono ?_); rintro e w1 ⟨rfl, rfl⟩)))
    go_ret
    exact ⟨ret_b HF.out.symm, grew_alloc _ _ _⟩
end Go.Proofs.Ytgblhliinjgofaa.NumK
