/- Rows of elements of a fixed number of plain cells: what came in, what a call owns, what is appended. -/
import Derived.Test.YtnbgbfbiieimgaaRA
import Derived.Laws.AppendOwnNone
import Derived.Laws.OwnMore
import Derived.Deep.QuietTactic
namespace Go.Proofs.Ytnbgbfbiieimgaa.NumK
open Go.RowKit

/-- How an element lies in cells. -/
structure En (α : Type) where
  size : Nat
  cs : α → List Value
  len : ∀ a, (cs a).length = size
  one : ∀ a, ∀ v ∈ cs a, v.oneCell' = true
  pos : 0 < size

def En.sp {α : Type} (E : En α) : Sp α := ⟨E.size, fun _ cs a => cs = E.cs a, fun h => by rw [h]; exact E.len _, fun h _ => h⟩

/-- A row of them, wherever it lies. -/
def RowE {α : Type} (E : En α) (w : World) (A : Option Addr) (n : Nat) (l : List α) : Prop := Row E.sp w A n l

theorem Row.imp {α β : Type} {A : Sp α} {B : Sp β} (f : α → β) (hs : B.size = A.size) {w : World} (hf : ∀ cs a, A.rd w cs a → B.rd w cs (f a)) {ad : Option Addr} {n : Nat} {l : List α} (h : Row A w ad n l) : Row B w ad n (l.map f) := by
  refine ⟨by rw [List.length_map]; exact h.1, fun hn => ?_⟩
  obtain ⟨b, o, e, hb, hc⟩ := h.2 hn
  refine ⟨b, o, e, hb, fun j hj => ?_⟩
  obtain ⟨cs, h1, h2⟩ := hc j (by simpa using hj)
  exact ⟨cs, by rw [List.getElem_map]; exact hf _ _ h1, fun i hi => by rw [hs]; exact h2 i (by rw [← hs]; exact hi)⟩

theorem RowE.keep {α : Type} {E : En α} {w w' : World} {ad : Option Addr} {n : Nat} {l : List α} (h : RowE E w ad n l) (g : Grew w w') : RowE E w' ad n l := Row.keep h g
theorem RowE.nil {α : Type} (E : En α) (w : World) (ad : Option Addr) : RowE E w ad 0 [] := Row.nil _ w ad
theorem RowE.len {α : Type} {E : En α} {w : World} {ad : Option Addr} {n : Nat} {l : List α} (h : RowE E w ad n l) : l.length = n := h.1
theorem RowE.at {α : Type} {E : En α} {w : World} {ad : Option Addr} {n : Nat} {l : List α} (h : RowE E w ad n l) (hn : 0 < n) :
    ∃ b o, ad = some ⟨b, o, none⟩ ∧ b < w.heap.size ∧ ∀ j (hj : j < l.length), ∀ i, i < E.size → w.cell? ⟨b, o + j * E.size + i, none⟩ = (E.cs l[j])[i]? := by
  obtain ⟨b, o, e, hb, hc⟩ := h.2 hn
  refine ⟨b, o, e, hb, fun j hj i hi => ?_⟩
  obtain ⟨cs, h1, h2⟩ := hc j hj
  have h1 : cs = E.cs l[j] := h1
  subst h1
  exact h2 i hi
theorem RowE.take {α : Type} {E : En α} {w : World} {ad : Option Addr} {n k : Nat} {l : List α} (h : RowE E w ad n l) (hk : k ≤ n) : RowE E w ad k (l.take k) := Row.take h hk

/-- A block that the call has made, behind whatever only grows. -/
theorem own_cell {w w1 : World} {cs : Array Value} {t : TypeId} (h : Grew (w.alloc (.cells cs t)) w1) (i : Nat) : w1.cell? ⟨w.heap.size, i, none⟩ = cs[i]? :=
  (Below.cell h (p := ⟨w.heap.size, i, none⟩) (by simp)).trans (by rw [World.cell?_alloc_at _ _ _ _ (by simp)])
theorem own_lt {w w1 : World} {cs : Array Value} {t : TypeId} (h : Grew (w.alloc (.cells cs t)) w1) : w.heap.size < w1.heap.size := by have := h.size; simp at this; omega
theorem own_back {w w1 : World} {cs : Array Value} {t : TypeId} (h : Grew (w.alloc (.cells cs t)) w1) : Grew w w1 := grew_trans (grew_alloc _ _ _) h

/-! ### what a call owns -/
def OwnE {α : Type} (E : En α) (w : World) (base : Nat) (t : TypeId) (v : Value) (l : List α) : Prop := w.ownsRow base t E.size v l.length (l.flatMap E.cs)

theorem En.flat_len {α : Type} (E : En α) (l : List α) : (l.flatMap E.cs).length = l.length * E.size := by
  induction l with
  | nil => simp
  | cons x l ih => rw [List.flatMap_cons, List.length_append, ih, E.len, List.length_cons, Nat.succ_mul, Nat.add_comm]
theorem En.flat_at {α : Type} (E : En α) (l : List α) (j : Nat) (h : j < l.length) (i : Nat) (hi : i < E.size) : (l.flatMap E.cs)[j * E.size + i]? = (E.cs l[j])[i]? := by
  induction l generalizing j with
  | nil => simp at h
  | cons x l ih =>
    rw [List.flatMap_cons]
    cases j with
    | zero =>
      rw [Nat.zero_mul, Nat.zero_add, List.getElem?_append_left (by rw [E.len]; exact hi)]; rfl
    | succ j =>
      rw [List.getElem?_append_right (by rw [E.len, Nat.succ_mul]; omega), E.len, show (j + 1) * E.size + i - E.size = j * E.size + i by rw [Nat.succ_mul]; omega, ih j (by simpa using h)]
      rfl

theorem OwnE.nil {α : Type} (E : En α) (w : World) (base : Nat) (t : TypeId) : OwnE E w base t (.slice none 0 0) [] := World.ownsRow_nil _ _ _ _
theorem OwnE.empty {α : Type} (E : En α) (w : World) (base : Nat) (t : TypeId) (hb : base ≤ w.heap.size) : OwnE E (w.alloc (.cells #[] t)) base t (.slice (some ⟨w.heap.size, 0, none⟩) 0 0) [] :=
  ⟨by simp, .inr ⟨w.heap.size, 0, #[], rfl, hb, heap_alloc_new w _, Nat.le_refl _, by unfold maxLen; omega, by simp, by simp⟩⟩
theorem OwnE.form {α : Type} {E : En α} {w : World} {base : Nat} {t : TypeId} {v : Value} {l : List α} (h : OwnE E w base t v l) :
    ∃ A c, v = .slice A l.length c ∧ RowE E w A l.length l ∧ (A = none → c = 0) ∧ l.length ≤ c ∧ c ≤ maxLen := by
  obtain ⟨_, h⟩ := h
  rcases h with ⟨rfl, h0⟩ | ⟨g, cap, cur, rfl, _, hh, hc, hm, _, ht⟩
  · obtain rfl := List.eq_nil_of_length_eq_zero h0
    exact ⟨none, 0, rfl, RowE.nil E w none, fun _ => rfl, Nat.le_refl _, by unfold maxLen; omega⟩
  · refine ⟨some ⟨g, 0, none⟩, cap, rfl, ⟨rfl, fun hn => ⟨g, 0, rfl, ?_, fun j hj => ⟨E.cs l[j], rfl, fun i hi => ?_⟩⟩⟩, (fun h => by cases h), hc, hm⟩
    · rcases Nat.lt_or_ge g w.heap.size with h1 | h1
      · exact h1
      · rw [Array.getElem?_eq_none h1] at hh; cases hh
    · have hi : i < E.size := hi
      have e1 := E.flat_at l j hj i hi
      have hlt : j * E.size + i < l.length * E.size := by
        have : (j + 1) * E.size ≤ l.length * E.size := Nat.mul_le_mul_right _ hj
        rw [Nat.succ_mul] at this; omega
      rw [← ht, List.getElem?_take, if_pos hlt, Array.getElem?_toList] at e1
      show w.cell? ⟨g, 0 + j * E.size + i, none⟩ = _
      rw [cell_of_row w g _ cur t (0, 0) hh, Nat.zero_add, e1]
theorem OwnE.keep {α : Type} {E : En α} {w w' : World} {base : Nat} {t : TypeId} {v : Value} {l : List α} (h : OwnE E w base t v l) (g : Grew w w') : OwnE E w' base t v l := by
  obtain ⟨hl, h⟩ := h
  refine ⟨hl, ?_⟩
  rcases h with h | ⟨b, cap, cur, hv, hb, hh, r⟩
  · exact Or.inl h
  · refine Or.inr ⟨b, cap, cur, hv, hb, ?_, r⟩
    rw [g.block b ?_]
    · exact hh
    · rcases Nat.lt_or_ge b w.heap.size with h1 | h1
      · exact h1
      · rw [Array.getElem?_eq_none h1] at hh; cases hh
theorem OwnE.mono {α : Type} {E : En α} {w : World} {base base2 : Nat} {t : TypeId} {v : Value} {l : List α} (h : OwnE E w base t v l) (hb : base2 ≤ base) : OwnE E w base2 t v l := by
  obtain ⟨hl, h⟩ := h
  refine ⟨hl, ?_⟩
  rcases h with h | ⟨b, cap, cur, hv, h1, hh, r⟩
  · exact Or.inl h
  · exact Or.inr ⟨b, cap, cur, hv, by omega, hh, r⟩

section
variable {w : World} {ops : Array Oper} {rest : List Oper} {o : Oper} {a : Act} {Q : Exit → Act → World → Prop}
theorem wpList_append_E {α : Type} {E : En α} (hgd : o.guard = none) (s x : Operand) (T t : TypeId) (z : Value) (by' : Nat)
    (ho : o.op = .call { callee := .builtin .append, args := #[s, x], argTypes := #[T, T] })
    (hT : Try.prog.underlying T = some (.slice t)) (hi : (Try.prog.info? t).map (fun i => (i.zero, i.size, i.bytes)) = some (some z, E.size, by')) (hz : z.cells.size = E.size)
    (base : Nat) (v : Value) (l : List α) (hs : a.eval s = v) (hown : OwnE E w base t v l)
    (A : Option Addr) (m c : Nat) (zs : List α) (hx : a.eval x = .slice A m c) (hA : A = none → c = 0) (hR : RowE E w A m zs)
    (hm : l.length + m ≤ maxLen) (hlim : (l.length + m) * by' ≤ 140737488355328) (hbase : base ≤ w.heap.size)
    (h : ∀ v' w', OwnE E w' base t v' (l ++ zs) → Below base w w' → wpList Try.prog ops Q rest (a.put o.dst v') w') : wpList Try.prog ops Q (o :: rest) a w := by
  obtain ⟨i, hi, hz0, hz1, hz2⟩ := info_parts hi
  have hl := hR.len
  cases A with
  | none =>
    have hc := hA rfl
    subst hc
    have hm0 : m = 0 := by
      rcases Nat.eq_zero_or_pos m with h0 | h0
      · exact h0
      · obtain ⟨b, o, he, _⟩ := hR.2 h0
        cases he
    subst hm0
    have hz : zs = [] := List.eq_nil_of_length_eq_zero hl
    subst hz
    exact wpList_append_own_none hgd s x T ho base t i E.size hT hi v l.length _ hs hown hx (h v w (by simpa using hown) (Below.refl _ _))
  | some ad =>
    refine wpList_append_own w hgd s x T ho base t i z E.size by' hT hi hz0 hz1 hz2 hz E.pos v l.length _ hs hown ad m c (zs.flatMap E.cs) hx (by rw [E.flat_len, hl]) (fun j u hu => ?_) (fun u hu => ?_) hm hlim hbase (fun v' w' ho' hg _ => ?_)
    · have hj : j < zs.length * E.size := by
        rw [← E.flat_len]
        rcases Nat.lt_or_ge j (zs.flatMap E.cs).length with h1 | h1
        · exact h1
        · rw [List.getElem?_eq_none h1] at hu; cases hu
      have hq : j / E.size < zs.length := Nat.div_lt_of_lt_mul (by rw [Nat.mul_comm]; exact hj)
      have hdm : j / E.size * E.size + j % E.size = j := by rw [Nat.mul_comm]; exact Nat.div_add_mod j E.size
      have hmod : j % E.size < E.size := Nat.mod_lt _ E.pos
      obtain ⟨b, o2, he, hb, hc⟩ := hR.at (by rw [← hl]; exact Nat.lt_of_le_of_lt (Nat.zero_le _) hq)
      cases he
      have e1 := hc (j / E.size) hq (j % E.size) hmod
      rw [← E.flat_at zs _ hq _ hmod, hdm, hu] at e1
      rw [addr_add, ← e1, Nat.add_assoc, hdm]
    · obtain ⟨y, _, hy⟩ := List.mem_flatMap.1 hu
      exact E.one y u hy
    · refine h v' w' ?_ ((Below.refl base w).grown hg hbase fun k hk => (hown.lt k hk).1)
      show w'.ownsRow base t E.size v' (l ++ zs).length ((l ++ zs).flatMap E.cs)
      rw [List.length_append, hl, List.flatMap_append]
      exact ho'
end
end Go.Proofs.Ytnbgbfbiieimgaa.NumK
namespace Go.Proofs.Ytnbgbfbiieimgaa.NumK
open Go.RowKit
set_option linter.unusedVariables false

structure OwnC (w : World) (b : Nat) (cs : List Value) : Prop where
  lt : b < w.heap.size
  c : ∀ i, i < cs.length → w.cell? ⟨b, i, none⟩ = cs[i]?
  f : ∀ i, i < cs.length → w.frozen? ⟨b, i, none⟩ = false

theorem OwnC.new (w : World) (cs : List Value) (t : TypeId) (N : Nat) (hN : N = w.heap.size) : OwnC (w.alloc (.cells cs.toArray t)) N cs := by
  subst hN
  refine ⟨by simp, fun i hi => ?_, fun i hi => ?_⟩
  · rw [World.cell?_alloc_at _ _ _ _ (by simp)]; simp
  · go_simp
theorem OwnC.keep {w w' : World} {b : Nat} {cs : List Value} (h : OwnC w b cs) (g : Grew w w') : OwnC w' b cs :=
  ⟨Nat.lt_of_lt_of_le h.lt g.size, fun i hi => (grew_cell g (p := ⟨b, i, none⟩) h.lt).trans (h.c i hi), fun i hi => (Below.frozen g (p := ⟨b, i, none⟩) h.lt).trans (h.f i hi)⟩
theorem OwnC.below {w w' : World} {b B : Nat} {cs : List Value} (h : OwnC w b cs) (g : Below B w w') (hb : b < B) : OwnC w' b cs :=
  ⟨Nat.lt_of_lt_of_le h.lt g.size, fun i hi => (Below.cell g (p := ⟨b, i, none⟩) hb).trans (h.c i hi), fun i hi => (Below.frozen g (p := ⟨b, i, none⟩) hb).trans (h.f i hi)⟩
theorem OwnC.set {w : World} {b : Nat} {cs : List Value} (h : OwnC w b cs) (i : Nat) (v : Value) (hi : i < cs.length) : OwnC (w.setCell ⟨b, i, none⟩ v) b (cs.set i v) := by
  refine ⟨by simp [World.setCell]; exact h.lt, fun j hj => ?_, fun j hj => ?_⟩
  · rw [List.length_set] at hj
    by_cases hc : i = j
    · subst hc
      rw [World.cell?_setCell_same _ _ _ ((h.c i hi).trans (List.getElem?_eq_getElem hi)), List.getElem?_set_self hi]
    · rw [World.cell?_setCell_other _ _ _ _ (by intro e; simp only [Addr.mk.injEq] at e; omega), h.c j hj, List.getElem?_set_ne hc]
  · rw [List.length_set] at hj
    rw [World.frozen?_setCell]; exact h.f j hj
theorem OwnC.other {w : World} {b : Nat} {cs : List Value} (h : OwnC w b cs) (p : Addr) (v : Value) (hp : p.block ≠ b) : OwnC (w.setCell p v) b cs :=
  ⟨by simp [World.setCell]; exact h.lt, fun i hi => (World.cell?_setCell_other _ _ _ _ (by intro e; apply hp; rw [e])).trans (h.c i hi), fun i hi => by rw [World.frozen?_setCell]; exact h.f i hi⟩
theorem OwnC.drew {w : World} {b : Nat} {cs : List Value} (h : OwnC w b cs) : OwnC w.drew b cs := h.keep (Below.drew (grew_refl w))

theorem grew_set {w w1 : World} (h : Grew w w1) {p : Addr} (v : Value) (hp : w.heap.size ≤ p.block) : Grew w (w1.setCell p v) := Below.setCell h hp v
theorem grew_drew {w w1 : World} (h : Grew w w1) : Grew w w1.drew := ⟨h.os, h.tape, h.output, h.size, h.block⟩
/-- Cells of a call's own block, written one behind the other. -/
def putC (w : World) (b : Nat) : Nat → List Value → World
  | _, [] => w
  | o, v :: vs => putC (w.setCell ⟨b, o, none⟩ v) b (o + 1) vs
theorem grew_put {w : World} (b : Nat) (hb : w.heap.size ≤ b) : ∀ (vs : List Value) (o : Nat) (w1 : World), Grew w w1 → Grew w (putC w1 b o vs)
  | [], _, _, h => h
  | v :: vs, o, w1, h => grew_put b hb vs (o + 1) _ (grew_set h v hb)
theorem OwnC.put {b : Nat} : ∀ (vs : List Value) (o : Nat) (w : World) (cs : List Value), OwnC w b cs → o + vs.length ≤ cs.length → OwnC (putC w b o vs) b (cs.take o ++ vs ++ cs.drop (o + vs.length))
  | [], o, w, cs, h, _ => by rw [List.append_nil, List.length_nil, Nat.add_zero, List.take_append_drop]; exact h
  | v :: vs, o, w, cs, h, hl => by
    rw [List.length_cons] at hl
    have h2 := OwnC.put vs (o + 1) _ _ (h.set o v (by omega)) (by rw [List.length_set]; omega)
    have e : (cs.set o v).take (o + 1) ++ vs ++ (cs.set o v).drop (o + 1 + vs.length) = cs.take o ++ (v :: vs) ++ cs.drop (o + (v :: vs).length) := by
      rw [List.take_succ_eq_append_getElem (by rw [List.length_set]; omega), List.getElem_set_self, List.take_set_of_le (Nat.le_refl _), List.drop_set_of_lt (by omega), List.length_cons, show o + 1 + vs.length = o + (vs.length + 1) by omega]
      simp
    rw [← e]; exact h2
/-- All of it. -/
theorem OwnC.all {w : World} {b : Nat} {cs : List Value} (h : OwnC w b cs) (vs : List Value) (hl : vs.length = cs.length) : OwnC (putC w b 0 vs) b vs := by
  have h2 := OwnC.put vs 0 w cs h (by omega)
  rw [List.take_zero, List.nil_append, List.drop_eq_nil_of_le (by omega), List.append_nil] at h2
  exact h2
theorem OwnC.at {w : World} {b : Nat} {cs : List Value} (h : OwnC w b cs) (i : Nat) (v : Value) (hv : cs[i]? = some v) : w.cell? ⟨b, i, none⟩ = some v := by
  rcases Nat.lt_or_ge i cs.length with h1 | h1
  · rw [h.c i h1, hv]
  · rw [List.getElem?_eq_none h1] at hv; cases hv
theorem OwnC.fr {w : World} {b : Nat} {cs : List Value} (h : OwnC w b cs) (i : Nat) (hi : i < cs.length) : w.frozen? ⟨b, i, none⟩ = false := h.f i hi
end Go.Proofs.Ytnbgbfbiieimgaa.NumK
namespace Go.Proofs.Ytnbgbfbiieimgaa.NumK
open Go.RowKit
set_option linter.unusedVariables false

theorem OwnE.same {α : Type} {E : En α} {w w' : World} {base : Nat} {t : TypeId} {v : Value} {l : List α} (h : OwnE E w base t v l) (hs : ∀ k, base ≤ k → w'.heap[k]? = w.heap[k]?) : OwnE E w' base t v l := by
  obtain ⟨hl, h⟩ := h
  refine ⟨hl, ?_⟩
  rcases h with h | ⟨b, cap, cur, hv, hb, hh, r⟩
  · exact Or.inl h
  · exact Or.inr ⟨b, cap, cur, hv, hb, by rw [hs b hb]; exact hh, r⟩
theorem OwnE.set {α : Type} {E : En α} {w : World} {base : Nat} {t : TypeId} {v : Value} {l : List α} (h : OwnE E w base t v l) (b i : Nat) (u : Value) (hb : b < base) : OwnE E (w.setCell ⟨b, i, none⟩ u) base t v l :=
  h.same fun k hk => Below.heap_setCell _ _ _ _ (by show k ≠ b; omega)
theorem OwnE.put {α : Type} {E : En α} {base b : Nat} {t : TypeId} {v : Value} {l : List α} (hb : b < base) : ∀ (vs : List Value) (o : Nat) (w : World), OwnE E w base t v l → OwnE E (putC w b o vs) base t v l
  | [], _, _, h => h
  | u :: vs, o, w, h => OwnE.put hb vs (o + 1) _ (h.set b o u hb)
theorem OwnC.putO {b b2 : Nat} {cs : List Value} (hb : b2 ≠ b) : ∀ (vs : List Value) (o : Nat) (w : World), OwnC w b cs → OwnC (putC w b2 o vs) b cs
  | [], _, _, h => h
  | u :: vs, o, w, h => OwnC.putO hb vs (o + 1) _ (h.other ⟨b2, o, none⟩ u hb)
theorem below_cell {w w' : World} {base b i : Nat} {v : Value} (h : Below base w w') (hb : b < base) (hc : w.cell? ⟨b, i, none⟩ = some v) : w'.cell? ⟨b, i, none⟩ = some v := (Below.cell h (p := ⟨b, i, none⟩) hb).trans hc
theorem below_froz {w w' : World} {base b i : Nat} (h : Below base w w') (hb : b < base) (hc : w.frozen? ⟨b, i, none⟩ = false) : w'.frozen? ⟨b, i, none⟩ = false := (Below.frozen h (p := ⟨b, i, none⟩) hb).trans hc
theorem size_set (w : World) (p : Addr) (v : Value) : (w.setCell p v).heap.size = w.heap.size := by simp [World.setCell]
theorem le_set {n : Nat} {w : World} (p : Addr) (v : Value) (h : n ≤ w.heap.size) : n ≤ (w.setCell p v).heap.size := by rw [size_set]; exact h
theorem size_put (b : Nat) : ∀ (vs : List Value) (o : Nat) (w : World), (putC w b o vs).heap.size = w.heap.size
  | [], _, _ => rfl
  | v :: vs, o, w => by show (putC (w.setCell ⟨b, o, none⟩ v) b (o + 1) vs).heap.size = _; rw [size_put b vs]; simp [World.setCell]
end Go.Proofs.Ytnbgbfbiieimgaa.NumK
namespace Go.Proofs.Ytnbgbfbiieimgaa.NumK
open Go.RowKit
set_option linter.unusedVariables false

/-- A block of the call's own: N cells that may be written. -/
def Slab (w : World) (g N : Nat) : Prop := g < w.heap.size ∧ ∀ k, k < N → (∃ v, w.cell? ⟨g, k, none⟩ = some v) ∧ w.frozen? ⟨g, k, none⟩ = false
theorem Slab.keep {w w' : World} {g N : Nat} (h : Slab w g N) (r : Grew w w') : Slab w' g N :=
  ⟨Nat.lt_of_lt_of_le h.1 r.size, fun k hk => by
    obtain ⟨⟨v, hv⟩, hf⟩ := h.2 k hk
    exact ⟨⟨v, (grew_cell r (p := ⟨g, k, none⟩) h.1).trans hv⟩, (Below.frozen r (p := ⟨g, k, none⟩) h.1).trans hf⟩⟩
theorem Slab.set {w : World} {g N : Nat} (h : Slab w g N) (b k : Nat) (x : Value) : Slab (w.setCell ⟨b, k, none⟩ x) g N :=
  ⟨by simpa [World.setCell] using h.1, fun i hi => by
    obtain ⟨⟨v, hv⟩, hf⟩ := h.2 i hi
    refine ⟨?_, by rw [World.frozen?_setCell]; exact hf⟩
    by_cases e : (⟨b, k, none⟩ : Addr) = ⟨g, i, none⟩
    · rw [e]; exact ⟨x, World.cell?_setCell_same _ _ _ hv⟩
    · exact ⟨v, by rw [World.cell?_setCell_other _ _ _ _ e]; exact hv⟩⟩
theorem OwnE.slab {α : Type} {E : En α} {w : World} {base : Nat} {t : TypeId} {v : Value} {l : List α} (h : OwnE E w base t v l) :
    ∃ A c, v = .slice A l.length c ∧ (l.length = 0 ∨ ∃ g, A = some ⟨g, 0, none⟩ ∧ base ≤ g ∧ Slab w g (l.length * E.size)) := by
  obtain ⟨hl, h⟩ := h
  rcases h with ⟨rfl, h0⟩ | ⟨g, cap, cur, rfl, hb, hh, hc, hm, hs, ht⟩
  · rw [h0]; exact ⟨none, 0, rfl, Or.inl rfl⟩
  · refine ⟨some ⟨g, 0, none⟩, cap, rfl, Or.inr ⟨g, rfl, hb, ?_, fun k hk => ⟨?_, ?_⟩⟩⟩
    · rcases Nat.lt_or_ge g w.heap.size with h1 | h1
      · exact h1
      · rw [Array.getElem?_eq_none h1] at hh; cases hh
    · rw [cell_of_row w g _ cur t (0, 0) hh]
      have hlt : k < cur.toList.length := by
        have e1 : (cur.toList.take (l.length * E.size)).length = l.length * E.size := by rw [ht, E.flat_len]
        rw [List.length_take] at e1; omega
      rw [← Array.getElem?_toList, List.getElem?_eq_getElem hlt]
      exact ⟨_, rfl⟩
    · unfold World.frozen?
      simp [hh]


theorem flat_set {α : Type} (E : En α) : ∀ (l : List α) (j i : Nat) (u : Value) (x : α) (h : j < l.length) (hi : i < E.size), E.cs x = (E.cs l[j]).set i u → (l.flatMap E.cs).set (j * E.size + i) u = (l.set j x).flatMap E.cs
  | [], j, i, u, x, h, hi, hx => by simp at h
  | y :: l, 0, i, u, x, h, hi, hx => by
    rw [List.set_cons_zero, List.flatMap_cons, List.flatMap_cons, Nat.zero_mul, Nat.zero_add, List.set_append_left _ _ (by rw [E.len]; exact hi), hx]
    rfl
  | y :: l, j + 1, i, u, x, h, hi, hx => by
    rw [List.set_cons_succ, List.flatMap_cons, List.flatMap_cons, List.set_append_right _ _ (by rw [E.len, Nat.succ_mul]; omega), E.len, show (j + 1) * E.size + i - E.size = j * E.size + i by rw [Nat.succ_mul]; omega, flat_set E l j i u x (by simpa using h) hi hx]
/-- One cell of an element. -/
theorem OwnE.put1 {α : Type} {E : En α} {w : World} {base : Nat} {t : TypeId} {g n c : Nat} {l : List α} (h : OwnE E w base t (.slice (some ⟨g, 0, none⟩) n c) l) (hn : n = l.length) (j i : Nat) (u : Value) (x : α) (hj : j < l.length) (hi : i < E.size) (hx : E.cs x = (E.cs l[j]).set i u) :
    OwnE E (w.setCell ⟨g, j * E.size + i, none⟩ u) base t (.slice (some ⟨g, 0, none⟩) n c) (l.set j x) := by
  subst hn
  have h2 := (World.ownsRow.stored h (j * E.size + i) u).1
  unfold OwnE
  rw [List.length_set, ← flat_set E l j i u x hj hi hx]
  exact h2
theorem OwnE.at0 {α : Type} {E : En α} {w : World} {base : Nat} {t : TypeId} {A : Option Addr} {n c : Nat} {l : List α} (h : OwnE E w base t (.slice A n c) l) (h0 : 0 < l.length) :
    ∃ g, A = some ⟨g, 0, none⟩ ∧ base ≤ g ∧ g < w.heap.size ∧ (∀ k, w.frozen? ⟨g, k, none⟩ = false) ∧ ∀ j (hj : j < l.length), ∀ i, i < E.size → w.cell? ⟨g, j * E.size + i, none⟩ = (E.cs l[j])[i]? := by
  have h' := h
  obtain ⟨hl, h⟩ := h
  rcases h with ⟨_, h1⟩ | ⟨g, cap, cur, e, hb, hh, hc, hm, hs, ht⟩
  · omega
  · cases e
    refine ⟨g, rfl, hb, ?_, fun k => ?_, fun j hj i hi => ?_⟩
    · rcases Nat.lt_or_ge g w.heap.size with h1 | h1
      · exact h1
      · rw [Array.getElem?_eq_none h1] at hh; cases hh
    · exact World.ownsRow.frozenAt h' k
    · have hlt : j * E.size + i < l.length * E.size := by
        have : (j + 1) * E.size ≤ l.length * E.size := Nat.mul_le_mul_right _ hj
        rw [Nat.succ_mul] at this; omega
      rw [World.ownsRow.cellAt h' _ hlt, E.flat_at l j hj i hi]

/-! ### what has been mapped so far -/
def preL {α : Type} (f : α → α) (l : List α) (j : Nat) : List α := (l.take j).map f ++ l.drop j
theorem pre_len {α : Type} (f : α → α) (l : List α) (j : Nat) : (preL f l j).length = l.length := by unfold preL; simp; omega
theorem pre_zero {α : Type} (f : α → α) (l : List α) : preL f l 0 = l := by simp [preL]
theorem pre_all {α : Type} (f : α → α) (l : List α) (j : Nat) (h : l.length ≤ j) : preL f l j = l.map f := by unfold preL; rw [List.take_of_length_le h, List.drop_eq_nil_of_le h, List.append_nil]
theorem pre_get {α : Type} (f : α → α) (l : List α) (j : Nat) (h : j < l.length) : (preL f l j)[j]'(by rw [pre_len]; exact h) = l[j] := by
  have hl : ((l.take j).map f).length = j := by simp; omega
  have e : (preL f l j)[j]? = l[j]? := by
    unfold preL
    rw [List.getElem?_append_right (by omega), hl, Nat.sub_self, List.getElem?_drop, Nat.add_zero]
  rw [List.getElem?_eq_getElem (by rw [pre_len]; exact h), List.getElem?_eq_getElem h] at e
  exact Option.some.inj e
theorem pre_set {α : Type} (f : α → α) (l : List α) (j : Nat) (h : j < l.length) : (preL f l j).set j (f l[j]) = preL f l (j + 1) := by
  have hl : ((l.take j).map f).length = j := by simp; omega
  unfold preL
  rw [List.set_append_right _ _ (by omega), hl, Nat.sub_self, List.take_succ_eq_append_getElem h, List.map_append, List.append_assoc, List.drop_eq_getElem_cons h]
  rfl
theorem pre_same {α : Type} (f : α → α) (l : List α) (j : Nat) (h : j < l.length) (hf : f l[j] = l[j]) : preL f l (j + 1) = preL f l j := by
  rw [← pre_set f l j h, hf, ← pre_get f l j h, List.set_getElem_self]
end Go.Proofs.Ytnbgbfbiieimgaa.NumK
namespace Go.Proofs.Ytnbgbfbiieimgaa.NumK
open Go.RowKit

theorem contains_snoc' (l : List Int) (y k : Int) : (l ++ [y]).contains k = (l.contains k || decide (y = k)) := by
  rw [Bool.eq_iff_iff]
  simp only [List.contains_iff_mem, List.mem_append, List.mem_singleton, Bool.or_eq_true, decide_eq_true_eq]
  constructor
  · rintro (h | h)
    · exact Or.inl h
    · exact Or.inr h.symm
  · rintro (h | h)
    · exact Or.inl h
    · exact Or.inr h.symm

theorem indexI_any (A : Option Addr) (n c : Nat) (zs : List Int) (x : Int) (w : World) (h : Ints w A n zs) (hn : n ≤ 9223372036854775807) :
    Calls Try.prog 71 #[.slice A n c, .int .i64 x] w fun e w' => (∃ r : Int, e = .returned (.int .i64 r) ∧ decide (0 ≤ r) = zs.contains x) ∧ w = w' := by
  have HZ := Lib.hid h
  clear h
  go_enter Try.func71, Try.ntmps71
  go_wp2
  go_loop [8] (fun i => ∃ k : Nat, k ≤ n ∧ i = .int .i64 k ∧ Hid ((zs.take k).contains x = false)) (fun i => n - (intOf i).toNat)
  case atStart => exact ⟨0, Nat.zero_le _, rfl, by simp [Hid]⟩
  case round =>
    obtain ⟨k, hk, rfl, HK⟩ := hrel
    by_cases hlt : k < n
    · obtain ⟨b, o, rfl, _, hc⟩ := HZ.out.2 (by omega)
      have hcell := hc k hlt
      have hl := HZ.out.1
      have hs : zs.take (k + 1) = zs.take k ++ [zs.getD k 0] := by rw [List.take_succ_eq_append_getElem (by omega)]; simp [List.getD, show k < zs.length by omega]
      have HS : Hid ((zs.take (k + 1)).contains x = decide (zs.getD k 0 = x)) := by show _ = _; rw [hs, contains_snoc', HK.out]; simp
      have HY : Hid (zs.getD k 0 = x → zs.contains x = true) := fun h => by
        rw [List.contains_iff_mem, ← h, show zs.getD k 0 = zs[k]'(by omega) by simp [List.getD, show k < zs.length by omega]]
        exact List.getElem_mem _
      clear hs hc hl
      generalize zs.getD k 0 = y at *
      by_cases hxy : x = y
      · subst hxy
        have HY2 := Lib.hid (HY.out rfl)
        clear HY HS
        go_wp2
        go_ret
        exact ⟨⟨_, rfl, by have := HY2.out; simp at this; simp [this]⟩, rfl⟩
      · have d1 : (x == y) = false := by simpa using hxy
        have HS2 : Hid ((zs.take (k + 1)).contains x = false) := by show _ = _; rw [HS.out]; simp; exact fun h => hxy h.symm
        clear HY HS hxy
        go_wp2
        go_round
        case rel => exact ⟨k + 1, by omega, by go_num, HS2⟩
        case measure => simp [intOf]; omega
    · have : k = n := by omega
      subst this
      have h1 := HK.out
      rw [List.take_of_length_le (by have := HZ.out.1; omega)] at h1
      have HE := Lib.hid h1
      clear h1
      go_wp2
      go_ret
      exact ⟨⟨_, rfl, by have := HE.out; simp at this; simp [this]⟩, rfl⟩

theorem contains_any (A : Option Addr) (n c : Nat) (zs : List Int) (x : Int) (w : World) (h : Ints w A n zs) (hn : n ≤ 9223372036854775807) :
    Calls Try.prog 60 #[.slice A n c, .int .i64 x] w fun e w' => e = .returned (.bool (zs.contains x)) ∧ w = w' := by
  have C := indexI_any A n c zs x w h hn
  clear h
  generalize zs.contains x = B at *
  go_enter Try.func60, Try.ntmps60
  go_wp2_with (go_at_call 71; ((with_reducible refine C.mono ?_); rintro e w' ⟨⟨r, rfl, hr⟩, rfl⟩; have HR := Lib.hid hr; clear hr))
  go_ret
  exact ⟨ret_b HR.out, rfl⟩
end Go.Proofs.Ytnbgbfbiieimgaa.NumK
namespace Go.Proofs.Ytnbgbfbiieimgaa.NumK

/-- The number, the state, the need. -/
abbrev Mb := Int × Int × Int
/-- The number, the currency, the price, the cut. -/
abbrev As := Int × Int × Int × Int
/-- The number, the currency, the multiplier, the add-on, the price that was told, the last one; the shifts. -/
abbrev In := (Int × Int × Int × Int × Int × Int) × (Int × Int × Int × Int × Int × Int)
abbrev Rl := List Mb × List In × List As
abbrev mb0 : Mb := (0, 0, 0)
abbrev as0 : As := (0, 0, 0, 0)
abbrev in0 : In := ((0, 0, 0, 0, 0, 0), (0, 0, 0, 0, 0, 0))

def noMb (x : Mb) : Int := x.1
def noIn (x : In) : Int := x.1.1
def noAs (x : As) : Int := x.1

def wi (n lo hi : Int) : Bool := decide (lo ≤ n) && decide (n ≤ hi)
theorem wi_iff (n lo hi : Int) : wi n lo hi = true ↔ lo ≤ n ∧ n ≤ hi := by simp [wi]
def okMb (x : Mb) : Bool := wi x.1 1 16 && wi x.2.1 1 3 && wi x.2.2 0 4611686018427387904
def okAs (x : As) : Bool := wi x.1 1 6 && wi x.2.1 0 2 && wi x.2.2.1 1 1073741824 && wi x.2.2.2 0 10000
def okSh (n : Int) : Bool := wi n (-1073741824) 1073741824
def shIn (x : In) : List Int := [x.2.1, x.2.2.1, x.2.2.2.1, x.2.2.2.2.1, x.2.2.2.2.2.1, x.2.2.2.2.2.2]
def okIn6 (x : In) : Bool := wi x.1.1 1 8 && wi x.1.2.1 0 2 && wi x.1.2.2.1 1 1024 && wi x.1.2.2.2.1 0 1073741824 && wi x.1.2.2.2.2.1 0 1073741824 && wi x.1.2.2.2.2.2 0 1073741824
def okIn (x : In) : Bool := (shIn x).all okSh && okIn6 x

section
variable {α : Type}

/-! ### lists that rise -/
def Rise (no : α → Int) (l : List α) : Prop := l.Pairwise fun x y => no x < no y

def stepOK (ok : α → Bool) (no : α → Int) (d : α) (l : List α) (j : Nat) : Bool := ok (l.getD j d) && (decide (j = 0) || decide (no (l.getD (j - 1) d) < no (l.getD j d)))
def rightL (ok : α → Bool) (no : α → Int) (d : α) (l : List α) : Bool := (List.range l.length).all (stepOK ok no d l)

theorem range_all_succ (p : Nat → Bool) (j : Nat) : (List.range (j + 1)).all p = ((List.range j).all p && p j) := by
  rw [List.range_succ, List.all_append]; simp
theorem range_all_no (p : Nat → Bool) (j n : Nat) (h : j < n) (hp : p j = false) : false = (List.range n).all p := by
  symm
  rw [List.all_eq_false]
  exact ⟨j, List.mem_range.2 h, by rw [hp]; decide⟩

theorem getD_mem (l : List α) (d : α) (j : Nat) (h : j < l.length) : l.getD j d ∈ l := by
  rw [show l.getD j d = l[j] by simp [List.getD, h]]; exact List.getElem_mem h
theorem getD_at (l : List α) (d : α) (j : Nat) (h : j < l.length) : l.getD j d = l[j] := by simp [List.getD, h]

theorem rise_of_steps (no : α → Int) (d : α) (l : List α) (h : ∀ j, 0 < j → j < l.length → no (l.getD (j - 1) d) < no (l.getD j d)) : Rise no l := by
  unfold Rise
  rw [List.pairwise_iff_getElem]
  intro i j hi hj hij
  induction j with
  | zero => omega
  | succ j ih =>
    have h1 := h (j + 1) (by omega) hj
    rw [getD_at _ _ _ hj, show j + 1 - 1 = j by omega, getD_at _ _ _ (by omega)] at h1
    by_cases hc : i = j
    · subst hc; exact h1
    · exact Int.lt_trans (ih (by omega) (by omega)) h1

theorem rightL_iff (ok : α → Bool) (no : α → Int) (d : α) (l : List α) : rightL ok no d l = true ↔ (∀ x ∈ l, ok x = true) ∧ Rise no l := by
  unfold rightL
  rw [List.all_eq_true]
  constructor
  · intro h
    refine ⟨fun x hx => ?_, rise_of_steps no d l fun j h0 hj => ?_⟩
    · obtain ⟨j, hj, rfl⟩ := List.getElem_of_mem hx
      have h1 := h j (List.mem_range.2 hj)
      unfold stepOK at h1
      rw [getD_at _ _ _ hj] at h1
      simp only [Bool.and_eq_true] at h1
      exact h1.1
    · have h1 := h j (List.mem_range.2 hj)
      unfold stepOK at h1
      simp only [Bool.and_eq_true, Bool.or_eq_true, decide_eq_true_eq] at h1
      rcases h1.2 with h2 | h2
      · omega
      · exact h2
  · rintro ⟨h1, h2⟩ j hj
    have hj := List.mem_range.1 hj
    unfold stepOK
    simp only [Bool.and_eq_true, Bool.or_eq_true, decide_eq_true_eq]
    refine ⟨h1 _ (getD_mem l d j hj), ?_⟩
    by_cases h0 : j = 0
    · exact Or.inl h0
    · right
      rw [getD_at _ _ _ hj, getD_at _ _ _ (by omega)]
      exact List.pairwise_iff_getElem.1 h2 (j - 1) j (by omega) hj (by omega)

/-- Two lists that rise, and have the same in them, are one. -/
theorem rise_ext (no : α → Int) : ∀ (l m : List α), Rise no l → Rise no m → (∀ y, y ∈ l ↔ y ∈ m) → l = m
  | [], [], _, _, _ => rfl
  | [], y :: m, _, _, h => by have := (h y).2 (by simp); simp at this
  | x :: l, [], _, _, h => by have := (h x).1 (by simp); simp at this
  | x :: l, y :: m, hl, hm, h => by
    have h1 := List.pairwise_cons.1 hl
    have h2 := List.pairwise_cons.1 hm
    have hxy : x = y := by
      have a1 : x ∈ y :: m := (h x).1 (by simp)
      have a2 : y ∈ x :: l := (h y).2 (by simp)
      rcases List.mem_cons.1 a1 with e | a1
      · exact e
      · rcases List.mem_cons.1 a2 with e | a2
        · exact e.symm
        · have := h2.1 x a1
          have := h1.1 y a2
          omega
    subst hxy
    congr 1
    refine rise_ext no l m h1.2 h2.2 fun z => ⟨fun hz => ?_, fun hz => ?_⟩
    · rcases List.mem_cons.1 ((h z).1 (List.mem_cons_of_mem _ hz)) with e | e
      · have := h1.1 z hz; rw [e] at this; omega
      · exact e
    · rcases List.mem_cons.1 ((h z).2 (List.mem_cons_of_mem _ hz)) with e | e
      · have := h2.1 z hz; rw [e] at this; omega
      · exact e

theorem rise_one {no : α → Int} {l : List α} (h : Rise no l) {x y : α} (hx : x ∈ l) (hy : y ∈ l) (he : no x = no y) : x = y := by
  obtain ⟨i, hi, rfl⟩ := List.getElem_of_mem hx
  obtain ⟨j, hj, rfl⟩ := List.getElem_of_mem hy
  have hp := List.pairwise_iff_getElem.1 h
  rcases Nat.lt_trichotomy i j with h1 | h1 | h1
  · have := hp i j hi hj h1; omega
  · subst h1; rfl
  · have := hp j i hj hi h1; omega

/-! ### who is found -/
def hasL (no : α → Int) (l : List α) (n : Int) : Bool := l.any fun x => decide (no x = n)
def findL (no : α → Int) (d : α) (l : List α) (n : Int) : α := (l.find? fun x => decide (no x = n)).getD d

theorem hasL_iff (no : α → Int) (l : List α) (n : Int) : hasL no l n = true ↔ ∃ x ∈ l, no x = n := by
  unfold hasL; rw [List.any_eq_true]; simp
theorem find_yes (no : α → Int) (d : α) (l : List α) (n : Int) (j : Nat) (hj : j < l.length) (h0 : ∀ i, i < j → no (l.getD i d) ≠ n) (h1 : no (l.getD j d) = n) : hasL no l n = true ∧ findL no d l n = l.getD j d := by
  refine ⟨(hasL_iff no l n).2 ⟨_, getD_mem l d j hj, h1⟩, ?_⟩
  unfold findL
  have e : l.find? (fun x => decide (no x = n)) = some l[j] := by
    rw [List.find?_eq_some_iff_getElem]
    refine ⟨by rw [← getD_at l d j hj]; simpa using h1, j, hj, rfl, fun i hi => ?_⟩
    have := h0 i hi
    rw [getD_at l d i (by omega)] at this
    simpa using this
  rw [e, getD_at l d j hj]; rfl
theorem find_no (no : α → Int) (d : α) (l : List α) (n : Int) (h0 : ∀ i, i < l.length → no (l.getD i d) ≠ n) : hasL no l n = false ∧ findL no d l n = d := by
  have h1 : ∀ x ∈ l, no x ≠ n := fun x hx => by
    obtain ⟨i, hi, rfl⟩ := List.getElem_of_mem hx
    have := h0 i hi
    rwa [getD_at l d i hi] at this
  refine ⟨?_, ?_⟩
  · unfold hasL; rw [List.any_eq_false]; intro x hx; simpa using h1 x hx
  · unfold findL
    have e : l.find? (fun x => decide (no x = n)) = none := by rw [List.find?_eq_none]; intro x hx; simpa using h1 x hx
    rw [e]; rfl
theorem find_mem (no : α → Int) (d : α) (l : List α) (n : Int) (h : hasL no l n = true) : findL no d l n ∈ l ∧ no (findL no d l n) = n := by
  obtain ⟨x, hx, hn⟩ := (hasL_iff no l n).1 h
  unfold findL
  cases e : l.find? (fun x => decide (no x = n)) with
  | none => rw [List.find?_eq_none] at e; have := e x hx; simp [hn] at this
  | some y =>
    have h1 := List.find?_some e
    have h2 := List.mem_of_find?_eq_some e
    exact ⟨h2, by simpa using h1⟩
theorem find_at (no : α → Int) (d : α) (l : List α) (n : Int) (h : hasL no l n = true) : ∃ j, j < l.length ∧ l.getD j d = findL no d l n ∧ no (l.getD j d) = n := by
  obtain ⟨h1, h2⟩ := find_mem no d l n h
  obtain ⟨j, hj, e⟩ := List.getElem_of_mem h1
  exact ⟨j, hj, by rw [getD_at l d j hj, e], by rw [getD_at l d j hj, e, h2]⟩
theorem find_none (no : α → Int) (d : α) (l : List α) (n : Int) (h : hasL no l n = false) : findL no d l n = d := by
  refine (find_no no d l n fun i hi he => ?_).2
  have := (hasL_iff no l n).2 ⟨_, getD_mem l d i hi, he⟩
  rw [h] at this; cases this

/-! ### what is put -/
def putL (no : α → Int) (l : List α) (x : α) : List α := l.filter (fun y => decide (no y < no x)) ++ x :: l.filter (fun y => decide (no x < no y))

theorem mem_put (no : α → Int) (l : List α) (x y : α) : y ∈ putL no l x ↔ y = x ∨ (y ∈ l ∧ no y ≠ no x) := by
  unfold putL
  rw [List.mem_append, List.mem_cons, List.mem_filter, List.mem_filter]
  simp only [decide_eq_true_eq]
  constructor
  · rintro (⟨h1, h2⟩ | h | ⟨h1, h2⟩)
    · exact Or.inr ⟨h1, by omega⟩
    · exact Or.inl h
    · exact Or.inr ⟨h1, by omega⟩
  · rintro (h | ⟨h1, h2⟩)
    · exact Or.inr (Or.inl h)
    · rcases Int.lt_or_gt_of_ne h2 with h3 | h3
      · exact Or.inl ⟨h1, h3⟩
      · exact Or.inr (Or.inr ⟨h1, h3⟩)
theorem rise_put {no : α → Int} {l : List α} (h : Rise no l) (x : α) : Rise no (putL no l x) := by
  unfold Rise putL
  rw [List.pairwise_append]
  refine ⟨List.Pairwise.filter _ h, List.pairwise_cons.2 ⟨fun y hy => ?_, List.Pairwise.filter _ h⟩, fun y hy z hz => ?_⟩
  · rw [List.mem_filter] at hy; simpa using hy.2
  · rw [List.mem_filter] at hy
    have h1 : no y < no x := by simpa using hy.2
    rcases List.mem_cons.1 hz with rfl | hz
    · exact h1
    · rw [List.mem_filter] at hz
      have h2 : no x < no z := by simpa using hz.2
      omega
theorem right_put {ok : α → Bool} {no : α → Int} {d : α} {l : List α} (h : rightL ok no d l = true) (x : α) (hx : ok x = true) : rightL ok no d (putL no l x) = true := by
  obtain ⟨h1, h2⟩ := (rightL_iff ok no d l).1 h
  refine (rightL_iff _ _ _ _).2 ⟨fun y hy => ?_, rise_put h2 x⟩
  rcases (mem_put no l x y).1 hy with rfl | ⟨h3, _⟩
  · exact hx
  · exact h1 y h3

/-- What the binary search tells. -/
theorem put_at {no : α → Int} {d : α} {l : List α} (h : Rise no l) (x : α) (k : Nat) (hk : k ≤ l.length) (h1 : ∀ i, i < k → no (l.getD i d) < no x) (h2 : ∀ i, k ≤ i → i < l.length → no x ≤ no (l.getD i d)) :
    (l.take k = l.filter fun y => decide (no y < no x)) ∧ ((k < l.length ∧ no (l.getD k d) = no x) → l.drop (k + 1) = l.filter fun y => decide (no x < no y)) ∧ (¬ (k < l.length ∧ no (l.getD k d) = no x) → l.drop k = l.filter fun y => decide (no x < no y)) := by
  have mt : ∀ y, y ∈ l.take k ↔ y ∈ l.filter fun y => decide (no y < no x) := by
    intro y
    rw [List.mem_filter, decide_eq_true_eq]
    constructor
    · intro hy
      obtain ⟨i, hi, rfl⟩ := List.getElem_of_mem hy
      rw [List.length_take] at hi
      rw [List.getElem_take]
      have := h1 i (by omega)
      rw [getD_at l d i (by omega)] at this
      exact ⟨List.getElem_mem _, this⟩
    · rintro ⟨hy, hn⟩
      obtain ⟨i, hi, rfl⟩ := List.getElem_of_mem hy
      rcases Nat.lt_or_ge i k with h3 | h3
      · exact List.mem_take_iff_getElem.2 ⟨i, by omega, rfl⟩
      · have := h2 i h3 hi
        rw [getD_at l d i hi] at this; omega
  have md : ∀ m, (∀ i, m ≤ i → i < l.length → no x < no (l.getD i d)) → (∀ i, i < m → i < l.length → no (l.getD i d) ≤ no x) → l.drop m = l.filter fun y => decide (no x < no y) := by
    intro m g1 g2
    refine rise_ext no _ _ (List.Pairwise.sublist (List.drop_sublist _ _) h) (List.Pairwise.filter _ h) fun y => ?_
    rw [List.mem_filter, decide_eq_true_eq]
    constructor
    · intro hy
      obtain ⟨i, hi, rfl⟩ := List.getElem_of_mem hy
      rw [List.length_drop] at hi
      rw [List.getElem_drop]
      have := g1 (m + i) (by omega) (by omega)
      rw [getD_at l d _ (by omega)] at this
      exact ⟨List.getElem_mem _, this⟩
    · rintro ⟨hy, hn⟩
      obtain ⟨i, hi, rfl⟩ := List.getElem_of_mem hy
      rcases Nat.lt_or_ge i m with h3 | h3
      · have := g2 i h3 hi
        rw [getD_at l d i hi] at this; omega
      · exact List.mem_drop_iff_getElem.2 ⟨i - m, by omega, by congr 1; omega⟩
  have hp := List.pairwise_iff_getElem.1 h
  refine ⟨rise_ext no _ _ (List.Pairwise.sublist (List.take_sublist _ _) h) (List.Pairwise.filter _ h) mt, fun hh => md _ (fun i hi hl => ?_) (fun i hi hl => ?_), fun hh => md _ (fun i hi hl => ?_) (fun i hi hl => ?_)⟩
  · have := hp k i hh.1 hl (by omega)
    have e := hh.2
    rw [getD_at l d k hh.1] at e
    rw [getD_at l d i hl]; omega
  · rcases Nat.lt_or_ge i k with h3 | h3
    · have := h1 i h3; omega
    · obtain rfl : i = k := by omega
      omega
  · have h3 := h2 i hi hl
    by_cases hc : no x = no (l.getD i d)
    · exfalso
      apply hh
      rcases Nat.eq_or_lt_of_le hi with h4 | h4
      · subst h4; exact ⟨hl, hc.symm⟩
      · have h5 := h2 k (by omega) (by omega)
        have h6 := hp k i (by omega) hl h4
        rw [getD_at l d k (by omega)] at h5
        rw [getD_at l d i hl] at hc
        omega
    · omega
  · have := h1 i hi; omega

/-- One in the place of one with its number. -/
theorem mem_set {no : α → Int} {d : α} {l : List α} (h : Rise no l) (x y : α) (k : Nat) (hk : k < l.length) (hn : no (l.getD k d) = no x) : y ∈ l.set k x ↔ y = x ∨ (y ∈ l ∧ no y ≠ no x) := by
  have hp := List.pairwise_iff_getElem.1 h
  rw [getD_at l d k hk] at hn
  constructor
  · intro hy
    obtain ⟨i, hi, rfl⟩ := List.getElem_of_mem hy
    rw [List.length_set] at hi
    rw [List.getElem_set]
    by_cases hc : k = i
    · rw [if_pos hc]; exact Or.inl rfl
    · rw [if_neg hc]
      refine Or.inr ⟨List.getElem_mem _, fun he => hc ?_⟩
      rcases Nat.lt_trichotomy k i with h1 | h1 | h1
      · have := hp k i hk hi h1; omega
      · exact h1
      · have := hp i k hi hk h1; omega
  · rintro (rfl | ⟨hy, hne⟩)
    · exact List.mem_iff_getElem.2 ⟨k, by rw [List.length_set]; exact hk, by rw [List.getElem_set_self]⟩
    · obtain ⟨i, hi, rfl⟩ := List.getElem_of_mem hy
      refine List.mem_iff_getElem.2 ⟨i, by rw [List.length_set]; exact hi, ?_⟩
      rw [List.getElem_set, if_neg]
      intro hc; subst hc; exact hne hn
theorem rise_set {no : α → Int} {d : α} {l : List α} (h : Rise no l) (x : α) (k : Nat) (hk : k < l.length) (hn : no (l.getD k d) = no x) : Rise no (l.set k x) := by
  have hp := List.pairwise_iff_getElem.1 h
  rw [getD_at l d k hk] at hn
  unfold Rise
  rw [List.pairwise_iff_getElem]
  intro i j hi hj hij
  rw [List.length_set] at hi hj
  have := hp i j hi hj hij
  rw [List.getElem_set, List.getElem_set]
  by_cases h1 : k = i
  · rw [if_pos h1, if_neg (by omega)]; subst h1; omega
  · rw [if_neg h1]
    by_cases h2 : k = j
    · rw [if_pos h2]; subst h2; omega
    · rw [if_neg h2]; exact this
theorem put_set {no : α → Int} {d : α} {l : List α} (h : Rise no l) (x : α) (k : Nat) (hk : k < l.length) (hn : no (l.getD k d) = no x) : putL no l x = l.set k x :=
  rise_ext no _ _ (rise_put h x) (rise_set h x k hk hn) fun y => by rw [mem_put, mem_set h x y k hk hn]
theorem put_len_has {no : α → Int} {d : α} {l : List α} (h : Rise no l) (x : α) (hh : hasL no l (no x) = true) : (putL no l x).length = l.length := by
  obtain ⟨j, hj, _, hn⟩ := find_at no d l (no x) hh
  rw [put_set h x j hj hn, List.length_set]
theorem put_len_new {no : α → Int} {l : List α} (x : α) (hh : hasL no l (no x) = false) : (putL no l x).length = l.length + 1 := by
  unfold putL
  rw [List.length_append, List.length_cons]
  have : ∀ l : List α, hasL no l (no x) = false → (l.filter fun y => decide (no y < no x)).length + (l.filter fun y => decide (no x < no y)).length = l.length := by
    intro l
    induction l with
    | nil => intro _; rfl
    | cons y l ih =>
      intro h
      unfold hasL at h
      rw [List.any_cons, Bool.or_eq_false_iff] at h
      have h1 : no y ≠ no x := by simpa using h.1
      have h2 := ih h.2
      rw [List.filter_cons, List.filter_cons, List.length_cons]
      by_cases hc : no y < no x
      · rw [if_pos (by simpa using hc), if_neg (by simp; omega), List.length_cons]; omega
      · rw [if_neg (by simpa using hc), if_pos (by simp; omega), List.length_cons]; omega
  have := this l hh
  omega

/-! ### how long a list may be -/
theorem rise_len (no : α → Int) : ∀ (l : List α) (a : Int) (M : Nat), Rise no l → (∀ x ∈ l, a < no x ∧ no x ≤ a + M) → l.length ≤ M
  | [], _, _, _, _ => by simp
  | x :: l, a, M, h, hb => by
    have h1 := List.pairwise_cons.1 h
    have hx := hb x (by simp)
    have := rise_len no l (no x) (a + M - no x).toNat h1.2 fun y hy => ⟨h1.1 y hy, by have := hb y (by simp [hy]); omega⟩
    rw [List.length_cons]; omega

/-! ### as the document collects them -/
def collL (no : α → Int) (d : α) (l : List α) (x : α) (k : Nat) : List α :=
  (List.range k).flatMap fun i : Nat => if (i : Int) + 1 = no x then [x] else if hasL no l ((i : Int) + 1) = true then [findL no d l ((i : Int) + 1)] else []
theorem coll_zero (no : α → Int) (d : α) (l : List α) (x : α) : collL no d l x 0 = [] := rfl
theorem coll_succ (no : α → Int) (d : α) (l : List α) (x : α) (k : Nat) : collL no d l x (k + 1) = collL no d l x k ++ (if (k : Int) + 1 = no x then [x] else if hasL no l ((k : Int) + 1) = true then [findL no d l ((k : Int) + 1)] else []) := by
  unfold collL
  rw [List.range_succ, List.flatMap_append]; simp
theorem mem_coll (no : α → Int) (d : α) (l : List α) (x y : α) (k : Nat) (h : Rise no l) : y ∈ collL no d l x k ↔ (1 ≤ no y ∧ no y ≤ k) ∧ (y = x ∨ (y ∈ l ∧ no y ≠ no x)) := by
  unfold collL
  rw [List.mem_flatMap]
  constructor
  · rintro ⟨i, hi, hy⟩
    have hi := List.mem_range.1 hi
    split at hy
    · next e => obtain rfl := List.mem_singleton.1 hy; exact ⟨by omega, Or.inl rfl⟩
    · next e =>
      split at hy
      · next g =>
        obtain ⟨f1, f2⟩ := find_mem no d l _ g
        obtain rfl := List.mem_singleton.1 hy
        exact ⟨by omega, Or.inr ⟨f1, by omega⟩⟩
      · simp at hy
  · rintro ⟨⟨h1, h2⟩, h3⟩
    refine ⟨(no y - 1).toNat, List.mem_range.2 (by omega), ?_⟩
    have e : (((no y - 1).toNat : Nat) : Int) + 1 = no y := by omega
    rw [e]
    rcases h3 with rfl | ⟨h3, h4⟩
    · rw [if_pos rfl]; simp
    · have hh := (hasL_iff no l (no y)).2 ⟨y, h3, rfl⟩
      rw [if_neg h4, if_pos hh]
      obtain ⟨f1, f2⟩ := find_mem no d l _ hh
      rw [rise_one h f1 h3 f2]; simp
theorem rise_coll (no : α → Int) (d : α) (l : List α) (x : α) (h : Rise no l) : ∀ k, Rise no (collL no d l x k)
  | 0 => List.Pairwise.nil
  | k + 1 => by
    rw [coll_succ]
    unfold Rise
    rw [List.pairwise_append]
    refine ⟨rise_coll no d l x h k, ?_, fun y hy z hz => ?_⟩
    · split
      · simp
      · split <;> simp
    · have h1 := ((mem_coll no d l x y k h).1 hy).1.2
      split at hz
      · next e => obtain rfl := List.mem_singleton.1 hz; omega
      · split at hz
        · next g =>
          obtain ⟨f1, f2⟩ := find_mem no d l _ g
          obtain rfl := List.mem_singleton.1 hz
          omega
        · simp at hz
theorem coll_put (no : α → Int) (d : α) (l : List α) (x : α) (M : Nat) (h : Rise no l) (hl : ∀ y ∈ l, 1 ≤ no y ∧ no y ≤ M) (hx : 1 ≤ no x ∧ no x ≤ M) : collL no d l x M = putL no l x :=
  rise_ext no _ _ (rise_coll no d l x h M) (rise_put h x) fun y => by
    rw [mem_coll no d l x y M h, mem_put]
    constructor
    · exact fun hh => hh.2
    · rintro (rfl | hh)
      · exact ⟨hx, Or.inl rfl⟩
      · exact ⟨hl y hh.1, Or.inr hh⟩
end
end Go.Proofs.Ytnbgbfbiieimgaa.NumK
