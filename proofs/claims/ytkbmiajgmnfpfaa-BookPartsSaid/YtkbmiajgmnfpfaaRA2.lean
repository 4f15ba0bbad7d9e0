/- Rows of elements of a fixed number of plain cells: what came in, what a call owns, what is appended. -/
import Derived.Test.YtkbmiajgmnfpfaaRA
import Derived.Laws.AppendOwnNone
import Derived.Laws.OwnMore
namespace Go.Proofs.Ytkbmiajgmnfpfaa.NumK
open Go.RowKit

/-- How an element lies in cells. -/
structure En (α : Type) where
  size : Nat
  cs : α → List Value
  len : ∀ a, (cs a).length = size
  one : ∀ a, ∀ v ∈ cs a, v.oneCell' = true
  pos : 0 < size

def En.sp {α : Type} (E : En α) : Sp α := ⟨E.size, fun _ cs a => cs = E.cs a, fun h => by rw [h]; exact E.len _, fun h _ => h⟩

/-- A row of them, wherever it lies. -/
def RowE {α : Type} (E : En α) (w : World) (A : Option Addr) (n : Nat) (l : List α) : Prop := Row E.sp w A n l

theorem Row.imp {α β : Type} {A : Sp α} {B : Sp β} (f : α → β) (hs : B.size = A.size) {w : World} (hf : ∀ cs a, A.rd w cs a → B.rd w cs (f a)) {ad : Option Addr} {n : Nat} {l : List α} (h : Row A w ad n l) : Row B w ad n (l.map f) := by
  refine ⟨by rw [List.length_map]; exact h.1, fun hn => ?_⟩
  obtain ⟨b, o, e, hb, hc⟩ := h.2 hn
  refine ⟨b, o, e, hb, fun j hj => ?_⟩
  obtain ⟨cs, h1, h2⟩ := hc j (by simpa using hj)
  exact ⟨cs, by rw [List.getElem_map]; exact hf _ _ h1, fun i hi => by rw [hs]; exact h2 i (by rw [← hs]; exact hi)⟩

theorem RowE.keep {α : Type} {E : En α} {w w' : World} {ad : Option Addr} {n : Nat} {l : List α} (h : RowE E w ad n l) (g : Grew w w') : RowE E w' ad n l := Row.keep h g
theorem RowE.nil {α : Type} (E : En α) (w : World) (ad : Option Addr) : RowE E w ad 0 [] := Row.nil _ w ad
theorem RowE.len {α : Type} {E : En α} {w : World} {ad : Option Addr} {n : Nat} {l : List α} (h : RowE E w ad n l) : l.length = n := h.1
theorem RowE.at {α : Type} {E : En α} {w : World} {ad : Option Addr} {n : Nat} {l : List α} (h : RowE E w ad n l) (hn : 0 < n) :
    ∃ b o, ad = some ⟨b, o, none⟩ ∧ b < w.heap.size ∧ ∀ j (hj : j < l.length), ∀ i, i < E.size → w.cell? ⟨b, o + j * E.size + i, none⟩ = (E.cs l[j])[i]? := by
  obtain ⟨b, o, e, hb, hc⟩ := h.2 hn
  refine ⟨b, o, e, hb, fun j hj i hi => ?_⟩
  obtain ⟨cs, h1, h2⟩ := hc j hj
  have h1 : cs = E.cs l[j] := h1
  subst h1
  exact h2 i hi
theorem RowE.take {α : Type} {E : En α} {w : World} {ad : Option Addr} {n k : Nat} {l : List α} (h : RowE E w ad n l) (hk : k ≤ n) : RowE E w ad k (l.take k) := Row.take h hk

/-- A block that the call has made, behind whatever only grows. -/
theorem own_cell {w w1 : World} {cs : Array Value} {t : TypeId} (h : Grew (w.alloc (.cells cs t)) w1) (i : Nat) : w1.cell? ⟨w.heap.size, i, none⟩ = cs[i]? :=
  (Below.cell h (p := ⟨w.heap.size, i, none⟩) (by simp)).trans (by rw [World.cell?_alloc_at _ _ _ _ (by simp)])
theorem own_lt {w w1 : World} {cs : Array Value} {t : TypeId} (h : Grew (w.alloc (.cells cs t)) w1) : w.heap.size < w1.heap.size := by have := h.size; simp at this; omega
theorem own_back {w w1 : World} {cs : Array Value} {t : TypeId} (h : Grew (w.alloc (.cells cs t)) w1) : Grew w w1 := grew_trans (grew_alloc _ _ _) h

/-! ### what a call owns -/
def OwnE {α : Type} (E : En α) (w : World) (base : Nat) (t : TypeId) (v : Value) (l : List α) : Prop := w.ownsRow base t E.size v l.length (l.flatMap E.cs)

theorem En.flat_len {α : Type} (E : En α) (l : List α) : (l.flatMap E.cs).length = l.length * E.size := by
  induction l with
  | nil => simp
  | cons x l ih => rw [List.flatMap_cons, List.length_append, ih, E.len, List.length_cons, Nat.succ_mul, Nat.add_comm]
theorem En.flat_at {α : Type} (E : En α) (l : List α) (j : Nat) (h : j < l.length) (i : Nat) (hi : i < E.size) : (l.flatMap E.cs)[j * E.size + i]? = (E.cs l[j])[i]? := by
  induction l generalizing j with
  | nil => simp at h
  | cons x l ih =>
    rw [List.flatMap_cons]
    cases j with
    | zero =>
      rw [Nat.zero_mul, Nat.zero_add, List.getElem?_append_left (by rw [E.len]; exact hi)]; rfl
    | succ j =>
      rw [List.getElem?_append_right (by rw [E.len, Nat.succ_mul]; omega), E.len, show (j + 1) * E.size + i - E.size = j * E.size + i by rw [Nat.succ_mul]; omega, ih j (by simpa using h)]
      rfl

theorem OwnE.nil {α : Type} (E : En α) (w : World) (base : Nat) (t : TypeId) : OwnE E w base t (.slice none 0 0) [] := World.ownsRow_nil _ _ _ _
theorem OwnE.empty {α : Type} (E : En α) (w : World) (base : Nat) (t : TypeId) (hb : base ≤ w.heap.size) : OwnE E (w.alloc (.cells #[] t)) base t (.slice (some ⟨w.heap.size, 0, none⟩) 0 0) [] :=
  ⟨by simp, .inr ⟨w.heap.size, 0, #[], rfl, hb, heap_alloc_new w _, Nat.le_refl _, by unfold maxLen; omega, by simp, by simp⟩⟩
theorem OwnE.form {α : Type} {E : En α} {w : World} {base : Nat} {t : TypeId} {v : Value} {l : List α} (h : OwnE E w base t v l) :
    ∃ A c, v = .slice A l.length c ∧ RowE E w A l.length l ∧ (A = none → c = 0) ∧ l.length ≤ c ∧ c ≤ maxLen := by
  obtain ⟨_, h⟩ := h
  rcases h with ⟨rfl, h0⟩ | ⟨g, cap, cur, rfl, _, hh, hc, hm, _, ht⟩
  · obtain rfl := List.eq_nil_of_length_eq_zero h0
    exact ⟨none, 0, rfl, RowE.nil E w none, fun _ => rfl, Nat.le_refl _, by unfold maxLen; omega⟩
  · refine ⟨some ⟨g, 0, none⟩, cap, rfl, ⟨rfl, fun hn => ⟨g, 0, rfl, ?_, fun j hj => ⟨E.cs l[j], rfl, fun i hi => ?_⟩⟩⟩, (fun h => by cases h), hc, hm⟩
    · rcases Nat.lt_or_ge g w.heap.size with h1 | h1
      · exact h1
      · rw [Array.getElem?_eq_none h1] at hh; cases hh
    · have hi : i < E.size := hi
      have e1 := E.flat_at l j hj i hi
      have hlt : j * E.size + i < l.length * E.size := by
        have : (j + 1) * E.size ≤ l.length * E.size := Nat.mul_le_mul_right _ hj
        rw [Nat.succ_mul] at this; omega
      rw [← ht, List.getElem?_take, if_pos hlt, Array.getElem?_toList] at e1
      show w.cell? ⟨g, 0 + j * E.size + i, none⟩ = _
      rw [cell_of_row w g _ cur t (0, 0) hh, Nat.zero_add, e1]
theorem OwnE.keep {α : Type} {E : En α} {w w' : World} {base : Nat} {t : TypeId} {v : Value} {l : List α} (h : OwnE E w base t v l) (g : Grew w w') : OwnE E w' base t v l := by
  obtain ⟨hl, h⟩ := h
  refine ⟨hl, ?_⟩
  rcases h with h | ⟨b, cap, cur, hv, hb, hh, r⟩
  · exact Or.inl h
  · refine Or.inr ⟨b, cap, cur, hv, hb, ?_, r⟩
    rw [g.block b ?_]
    · exact hh
    · rcases Nat.lt_or_ge b w.heap.size with h1 | h1
      · exact h1
      · rw [Array.getElem?_eq_none h1] at hh; cases hh
theorem OwnE.mono {α : Type} {E : En α} {w : World} {base base2 : Nat} {t : TypeId} {v : Value} {l : List α} (h : OwnE E w base t v l) (hb : base2 ≤ base) : OwnE E w base2 t v l := by
  obtain ⟨hl, h⟩ := h
  refine ⟨hl, ?_⟩
  rcases h with h | ⟨b, cap, cur, hv, h1, hh, r⟩
  · exact Or.inl h
  · exact Or.inr ⟨b, cap, cur, hv, by omega, hh, r⟩

section
variable {w : World} {ops : Array Oper} {rest : List Oper} {o : Oper} {a : Act} {Q : Exit → Act → World → Prop}
theorem wpList_append_E {α : Type} {E : En α} (hgd : o.guard = none) (s x : Operand) (T t : TypeId) (z : Value) (by' : Nat)
    (ho : o.op = .call { callee := .builtin .append, args := #[s, x], argTypes := #[T, T] })
    (hT : Try.prog.underlying T = some (.slice t)) (hi : (Try.prog.info? t).map (fun i => (i.zero, i.size, i.bytes)) = some (some z, E.size, by')) (hz : z.cells.size = E.size)
    (base : Nat) (v : Value) (l : List α) (hs : a.eval s = v) (hown : OwnE E w base t v l)
    (A : Option Addr) (m c : Nat) (zs : List α) (hx : a.eval x = .slice A m c) (hA : A = none → c = 0) (hR : RowE E w A m zs)
    (hm : l.length + m ≤ maxLen) (hlim : (l.length + m) * by' ≤ 140737488355328) (hbase : base ≤ w.heap.size)
    (h : ∀ v' w', OwnE E w' base t v' (l ++ zs) → Below base w w' → wpList Try.prog ops Q rest (a.put o.dst v') w') : wpList Try.prog ops Q (o :: rest) a w := by
  obtain ⟨i, hi, hz0, hz1, hz2⟩ := info_parts hi
  have hl := hR.len
  cases A with
  | none =>
    have hc := hA rfl
    subst hc
    have hm0 : m = 0 := by
      rcases Nat.eq_zero_or_pos m with h0 | h0
      · exact h0
      · obtain ⟨b, o, he, _⟩ := hR.2 h0
        cases he
    subst hm0
    have hz : zs = [] := List.eq_nil_of_length_eq_zero hl
    subst hz
    exact wpList_append_own_none hgd s x T ho base t i E.size hT hi v l.length _ hs hown hx (h v w (by simpa using hown) (Below.refl _ _))
  | some ad =>
    refine wpList_append_own w hgd s x T ho base t i z E.size by' hT hi hz0 hz1 hz2 hz E.pos v l.length _ hs hown ad m c (zs.flatMap E.cs) hx (by rw [E.flat_len, hl]) (fun j u hu => ?_) (fun u hu => ?_) hm hlim hbase (fun v' w' ho' hg _ => ?_)
    · have hj : j < zs.length * E.size := by
        rw [← E.flat_len]
        rcases Nat.lt_or_ge j (zs.flatMap E.cs).length with h1 | h1
        · exact h1
        · rw [List.getElem?_eq_none h1] at hu; cases hu
      have hq : j / E.size < zs.length := Nat.div_lt_of_lt_mul (by rw [Nat.mul_comm]; exact hj)
      have hdm : j / E.size * E.size + j % E.size = j := by rw [Nat.mul_comm]; exact Nat.div_add_mod j E.size
      have hmod : j % E.size < E.size := Nat.mod_lt _ E.pos
      obtain ⟨b, o2, he, hb, hc⟩ := hR.at (by rw [← hl]; exact Nat.lt_of_le_of_lt (Nat.zero_le _) hq)
      cases he
      have e1 := hc (j / E.size) hq (j % E.size) hmod
      rw [← E.flat_at zs _ hq _ hmod, hdm, hu] at e1
      rw [addr_add, ← e1, Nat.add_assoc, hdm]
    · obtain ⟨y, _, hy⟩ := List.mem_flatMap.1 hu
      exact E.one y u hy
    · refine h v' w' ?_ ((Below.refl base w).grown hg hbase fun k hk => (hown.lt k hk).1)
      show w'.ownsRow base t E.size v' (l ++ zs).length ((l ++ zs).flatMap E.cs)
      rw [List.length_append, hl, List.flatMap_append]
      exact ho'
end
end Go.Proofs.Ytkbmiajgmnfpfaa.NumK
namespace Go.Proofs.Ytkbmiajgmnfpfaa.NumK
open Go.RowKit
set_option linter.unusedVariables false

structure OwnC (w : World) (b : Nat) (cs : List Value) : Prop where
  lt : b < w.heap.size
  c : ∀ i, i < cs.length → w.cell? ⟨b, i, none⟩ = cs[i]?
  f : ∀ i, i < cs.length → w.frozen? ⟨b, i, none⟩ = false

theorem OwnC.new (w : World) (cs : List Value) (t : TypeId) (N : Nat) (hN : N = w.heap.size) : OwnC (w.alloc (.cells cs.toArray t)) N cs := by
  subst hN
  refine ⟨by simp, fun i hi => ?_, fun i hi => ?_⟩
  · rw [World.cell?_alloc_at _ _ _ _ (by simp)]; simp
  · go_simp
theorem OwnC.keep {w w' : World} {b : Nat} {cs : List Value} (h : OwnC w b cs) (g : Grew w w') : OwnC w' b cs :=
  ⟨Nat.lt_of_lt_of_le h.lt g.size, fun i hi => (grew_cell g (p := ⟨b, i, none⟩) h.lt).trans (h.c i hi), fun i hi => (Below.frozen g (p := ⟨b, i, none⟩) h.lt).trans (h.f i hi)⟩
theorem OwnC.below {w w' : World} {b B : Nat} {cs : List Value} (h : OwnC w b cs) (g : Below B w w') (hb : b < B) : OwnC w' b cs :=
  ⟨Nat.lt_of_lt_of_le h.lt g.size, fun i hi => (Below.cell g (p := ⟨b, i, none⟩) hb).trans (h.c i hi), fun i hi => (Below.frozen g (p := ⟨b, i, none⟩) hb).trans (h.f i hi)⟩
theorem OwnC.set {w : World} {b : Nat} {cs : List Value} (h : OwnC w b cs) (i : Nat) (v : Value) (hi : i < cs.length) : OwnC (w.setCell ⟨b, i, none⟩ v) b (cs.set i v) := by
  refine ⟨by simp [World.setCell]; exact h.lt, fun j hj => ?_, fun j hj => ?_⟩
  · rw [List.length_set] at hj
    by_cases hc : i = j
    · subst hc
      rw [World.cell?_setCell_same _ _ _ ((h.c i hi).trans (List.getElem?_eq_getElem hi)), List.getElem?_set_self hi]
    · rw [World.cell?_setCell_other _ _ _ _ (by intro e; simp only [Addr.mk.injEq] at e; omega), h.c j hj, List.getElem?_set_ne hc]
  · rw [List.length_set] at hj
    rw [World.frozen?_setCell]; exact h.f j hj
theorem OwnC.other {w : World} {b : Nat} {cs : List Value} (h : OwnC w b cs) (p : Addr) (v : Value) (hp : p.block ≠ b) : OwnC (w.setCell p v) b cs :=
  ⟨by simp [World.setCell]; exact h.lt, fun i hi => (World.cell?_setCell_other _ _ _ _ (by intro e; apply hp; rw [e])).trans (h.c i hi), fun i hi => by rw [World.frozen?_setCell]; exact h.f i hi⟩
theorem OwnC.drew {w : World} {b : Nat} {cs : List Value} (h : OwnC w b cs) : OwnC w.drew b cs := h.keep (Below.drew (grew_refl w))

theorem grew_set {w w1 : World} (h : Grew w w1) {p : Addr} (v : Value) (hp : w.heap.size ≤ p.block) : Grew w (w1.setCell p v) := Below.setCell h hp v
theorem grew_drew {w w1 : World} (h : Grew w w1) : Grew w w1.drew := ⟨h.os, h.tape, h.output, h.size, h.block⟩
/-- Cells of a call's own block, written one behind the other. -/
def putC (w : World) (b : Nat) : Nat → List Value → World
  | _, [] => w
  | o, v :: vs => putC (w.setCell ⟨b, o, none⟩ v) b (o + 1) vs
theorem grew_put {w : World} (b : Nat) (hb : w.heap.size ≤ b) : ∀ (vs : List Value) (o : Nat) (w1 : World), Grew w w1 → Grew w (putC w1 b o vs)
  | [], _, _, h => h
  | v :: vs, o, w1, h => grew_put b hb vs (o + 1) _ (grew_set h v hb)
theorem OwnC.put {b : Nat} : ∀ (vs : List Value) (o : Nat) (w : World) (cs : List Value), OwnC w b cs → o + vs.length ≤ cs.length → OwnC (putC w b o vs) b (cs.take o ++ vs ++ cs.drop (o + vs.length))
  | [], o, w, cs, h, _ => by rw [List.append_nil, List.length_nil, Nat.add_zero, List.take_append_drop]; exact h
  | v :: vs, o, w, cs, h, hl => by
    rw [List.length_cons] at hl
    have h2 := OwnC.put vs (o + 1) _ _ (h.set o v (by omega)) (by rw [List.length_set]; omega)
    have e : (cs.set o v).take (o + 1) ++ vs ++ (cs.set o v).drop (o + 1 + vs.length) = cs.take o ++ (v :: vs) ++ cs.drop (o + (v :: vs).length) := by
      rw [List.take_succ_eq_append_getElem (by rw [List.length_set]; omega), List.getElem_set_self, List.take_set_of_le (Nat.le_refl _), List.drop_set_of_lt (by omega), List.length_cons, show o + 1 + vs.length = o + (vs.length + 1) by omega]
      simp
    rw [← e]; exact h2
/-- All of it. -/
theorem OwnC.all {w : World} {b : Nat} {cs : List Value} (h : OwnC w b cs) (vs : List Value) (hl : vs.length = cs.length) : OwnC (putC w b 0 vs) b vs := by
  have h2 := OwnC.put vs 0 w cs h (by omega)
  rw [List.take_zero, List.nil_append, List.drop_eq_nil_of_le (by omega), List.append_nil] at h2
  exact h2
theorem OwnC.at {w : World} {b : Nat} {cs : List Value} (h : OwnC w b cs) (i : Nat) (v : Value) (hv : cs[i]? = some v) : w.cell? ⟨b, i, none⟩ = some v := by
  rcases Nat.lt_or_ge i cs.length with h1 | h1
  · rw [h.c i h1, hv]
  · rw [List.getElem?_eq_none h1] at hv; cases hv
theorem OwnC.fr {w : World} {b : Nat} {cs : List Value} (h : OwnC w b cs) (i : Nat) (hi : i < cs.length) : w.frozen? ⟨b, i, none⟩ = false := h.f i hi
end Go.Proofs.Ytkbmiajgmnfpfaa.NumK
namespace Go.Proofs.Ytkbmiajgmnfpfaa.NumK
open Go.RowKit
set_option linter.unusedVariables false

theorem OwnE.same {α : Type} {E : En α} {w w' : World} {base : Nat} {t : TypeId} {v : Value} {l : List α} (h : OwnE E w base t v l) (hs : ∀ k, base ≤ k → w'.heap[k]? = w.heap[k]?) : OwnE E w' base t v l := by
  obtain ⟨hl, h⟩ := h
  refine ⟨hl, ?_⟩
  rcases h with h | ⟨b, cap, cur, hv, hb, hh, r⟩
  · exact Or.inl h
  · exact Or.inr ⟨b, cap, cur, hv, hb, by rw [hs b hb]; exact hh, r⟩
theorem OwnE.set {α : Type} {E : En α} {w : World} {base : Nat} {t : TypeId} {v : Value} {l : List α} (h : OwnE E w base t v l) (b i : Nat) (u : Value) (hb : b < base) : OwnE E (w.setCell ⟨b, i, none⟩ u) base t v l :=
  h.same fun k hk => Below.heap_setCell _ _ _ _ (by show k ≠ b; omega)
theorem OwnE.put {α : Type} {E : En α} {base b : Nat} {t : TypeId} {v : Value} {l : List α} (hb : b < base) : ∀ (vs : List Value) (o : Nat) (w : World), OwnE E w base t v l → OwnE E (putC w b o vs) base t v l
  | [], _, _, h => h
  | u :: vs, o, w, h => OwnE.put hb vs (o + 1) _ (h.set b o u hb)
theorem OwnC.putO {b b2 : Nat} {cs : List Value} (hb : b2 ≠ b) : ∀ (vs : List Value) (o : Nat) (w : World), OwnC w b cs → OwnC (putC w b2 o vs) b cs
  | [], _, _, h => h
  | u :: vs, o, w, h => OwnC.putO hb vs (o + 1) _ (h.other ⟨b2, o, none⟩ u hb)
theorem below_cell {w w' : World} {base b i : Nat} {v : Value} (h : Below base w w') (hb : b < base) (hc : w.cell? ⟨b, i, none⟩ = some v) : w'.cell? ⟨b, i, none⟩ = some v := (Below.cell h (p := ⟨b, i, none⟩) hb).trans hc
theorem below_froz {w w' : World} {base b i : Nat} (h : Below base w w') (hb : b < base) (hc : w.frozen? ⟨b, i, none⟩ = false) : w'.frozen? ⟨b, i, none⟩ = false := (Below.frozen h (p := ⟨b, i, none⟩) hb).trans hc
theorem size_set (w : World) (p : Addr) (v : Value) : (w.setCell p v).heap.size = w.heap.size := by simp [World.setCell]
theorem le_set {n : Nat} {w : World} (p : Addr) (v : Value) (h : n ≤ w.heap.size) : n ≤ (w.setCell p v).heap.size := by rw [size_set]; exact h
theorem size_put (b : Nat) : ∀ (vs : List Value) (o : Nat) (w : World), (putC w b o vs).heap.size = w.heap.size
  | [], _, _ => rfl
  | v :: vs, o, w => by show (putC (w.setCell ⟨b, o, none⟩ v) b (o + 1) vs).heap.size = _; rw [size_put b vs]; simp [World.setCell]
end Go.Proofs.Ytkbmiajgmnfpfaa.NumK
namespace Go.Proofs.Ytkbmiajgmnfpfaa.NumK
open Go.RowKit
set_option linter.unusedVariables false

/-- A block of the call's own: N cells that may be written. -/
def Slab (w : World) (g N : Nat) : Prop := g < w.heap.size ∧ ∀ k, k < N → (∃ v, w.cell? ⟨g, k, none⟩ = some v) ∧ w.frozen? ⟨g, k, none⟩ = false
theorem Slab.keep {w w' : World} {g N : Nat} (h : Slab w g N) (r : Grew w w') : Slab w' g N :=
  ⟨Nat.lt_of_lt_of_le h.1 r.size, fun k hk => by
    obtain ⟨⟨v, hv⟩, hf⟩ := h.2 k hk
    exact ⟨⟨v, (grew_cell r (p := ⟨g, k, none⟩) h.1).trans hv⟩, (Below.frozen r (p := ⟨g, k, none⟩) h.1).trans hf⟩⟩
theorem Slab.set {w : World} {g N : Nat} (h : Slab w g N) (b k : Nat) (x : Value) : Slab (w.setCell ⟨b, k, none⟩ x) g N :=
  ⟨by simpa [World.setCell] using h.1, fun i hi => by
    obtain ⟨⟨v, hv⟩, hf⟩ := h.2 i hi
    refine ⟨?_, by rw [World.frozen?_setCell]; exact hf⟩
    by_cases e : (⟨b, k, none⟩ : Addr) = ⟨g, i, none⟩
    · rw [e]; exact ⟨x, World.cell?_setCell_same _ _ _ hv⟩
    · exact ⟨v, by rw [World.cell?_setCell_other _ _ _ _ e]; exact hv⟩⟩
theorem OwnE.slab {α : Type} {E : En α} {w : World} {base : Nat} {t : TypeId} {v : Value} {l : List α} (h : OwnE E w base t v l) :
    ∃ A c, v = .slice A l.length c ∧ (l.length = 0 ∨ ∃ g, A = some ⟨g, 0, none⟩ ∧ base ≤ g ∧ Slab w g (l.length * E.size)) := by
  obtain ⟨hl, h⟩ := h
  rcases h with ⟨rfl, h0⟩ | ⟨g, cap, cur, rfl, hb, hh, hc, hm, hs, ht⟩
  · rw [h0]; exact ⟨none, 0, rfl, Or.inl rfl⟩
  · refine ⟨some ⟨g, 0, none⟩, cap, rfl, Or.inr ⟨g, rfl, hb, ?_, fun k hk => ⟨?_, ?_⟩⟩⟩
    · rcases Nat.lt_or_ge g w.heap.size with h1 | h1
      · exact h1
      · rw [Array.getElem?_eq_none h1] at hh; cases hh
    · rw [cell_of_row w g _ cur t (0, 0) hh]
      have hlt : k < cur.toList.length := by
        have e1 : (cur.toList.take (l.length * E.size)).length = l.length * E.size := by rw [ht, E.flat_len]
        rw [List.length_take] at e1; omega
      rw [← Array.getElem?_toList, List.getElem?_eq_getElem hlt]
      exact ⟨_, rfl⟩
    · unfold World.frozen?
      simp [hh]


theorem flat_set {α : Type} (E : En α) : ∀ (l : List α) (j i : Nat) (u : Value) (x : α) (h : j < l.length) (hi : i < E.size), E.cs x = (E.cs l[j]).set i u → (l.flatMap E.cs).set (j * E.size + i) u = (l.set j x).flatMap E.cs
  | [], j, i, u, x, h, hi, hx => by simp at h
  | y :: l, 0, i, u, x, h, hi, hx => by
    rw [List.set_cons_zero, List.flatMap_cons, List.flatMap_cons, Nat.zero_mul, Nat.zero_add, List.set_append_left _ _ (by rw [E.len]; exact hi), hx]
    rfl
  | y :: l, j + 1, i, u, x, h, hi, hx => by
    rw [List.set_cons_succ, List.flatMap_cons, List.flatMap_cons, List.set_append_right _ _ (by rw [E.len, Nat.succ_mul]; omega), E.len, show (j + 1) * E.size + i - E.size = j * E.size + i by rw [Nat.succ_mul]; omega, flat_set E l j i u x (by simpa using h) hi hx]
/-- One cell of an element. -/
theorem OwnE.put1 {α : Type} {E : En α} {w : World} {base : Nat} {t : TypeId} {g n c : Nat} {l : List α} (h : OwnE E w base t (.slice (some ⟨g, 0, none⟩) n c) l) (hn : n = l.length) (j i : Nat) (u : Value) (x : α) (hj : j < l.length) (hi : i < E.size) (hx : E.cs x = (E.cs l[j]).set i u) :
    OwnE E (w.setCell ⟨g, j * E.size + i, none⟩ u) base t (.slice (some ⟨g, 0, none⟩) n c) (l.set j x) := by
  subst hn
  have h2 := (World.ownsRow.stored h (j * E.size + i) u).1
  unfold OwnE
  rw [List.length_set, ← flat_set E l j i u x hj hi hx]
  exact h2
theorem OwnE.at0 {α : Type} {E : En α} {w : World} {base : Nat} {t : TypeId} {A : Option Addr} {n c : Nat} {l : List α} (h : OwnE E w base t (.slice A n c) l) (h0 : 0 < l.length) :
    ∃ g, A = some ⟨g, 0, none⟩ ∧ base ≤ g ∧ g < w.heap.size ∧ (∀ k, w.frozen? ⟨g, k, none⟩ = false) ∧ ∀ j (hj : j < l.length), ∀ i, i < E.size → w.cell? ⟨g, j * E.size + i, none⟩ = (E.cs l[j])[i]? := by
  have h' := h
  obtain ⟨hl, h⟩ := h
  rcases h with ⟨_, h1⟩ | ⟨g, cap, cur, e, hb, hh, hc, hm, hs, ht⟩
  · omega
  · cases e
    refine ⟨g, rfl, hb, ?_, fun k => ?_, fun j hj i hi => ?_⟩
    · rcases Nat.lt_or_ge g w.heap.size with h1 | h1
      · exact h1
      · rw [Array.getElem?_eq_none h1] at hh; cases hh
    · exact World.ownsRow.frozenAt h' k
    · have hlt : j * E.size + i < l.length * E.size := by
        have : (j + 1) * E.size ≤ l.length * E.size := Nat.mul_le_mul_right _ hj
        rw [Nat.succ_mul] at this; omega
      rw [World.ownsRow.cellAt h' _ hlt, E.flat_at l j hj i hi]

/-! ### what has been mapped so far -/
def preL {α : Type} (f : α → α) (l : List α) (j : Nat) : List α := (l.take j).map f ++ l.drop j
theorem pre_len {α : Type} (f : α → α) (l : List α) (j : Nat) : (preL f l j).length = l.length := by unfold preL; simp; omega
theorem pre_zero {α : Type} (f : α → α) (l : List α) : preL f l 0 = l := by simp [preL]
theorem pre_all {α : Type} (f : α → α) (l : List α) (j : Nat) (h : l.length ≤ j) : preL f l j = l.map f := by unfold preL; rw [List.take_of_length_le h, List.drop_eq_nil_of_le h, List.append_nil]
theorem pre_get {α : Type} (f : α → α) (l : List α) (j : Nat) (h : j < l.length) : (preL f l j)[j]'(by rw [pre_len]; exact h) = l[j] := by
  have hl : ((l.take j).map f).length = j := by simp; omega
  have e : (preL f l j)[j]? = l[j]? := by
    unfold preL
    rw [List.getElem?_append_right (by omega), hl, Nat.sub_self, List.getElem?_drop, Nat.add_zero]
  rw [List.getElem?_eq_getElem (by rw [pre_len]; exact h), List.getElem?_eq_getElem h] at e
  exact Option.some.inj e
theorem pre_set {α : Type} (f : α → α) (l : List α) (j : Nat) (h : j < l.length) : (preL f l j).set j (f l[j]) = preL f l (j + 1) := by
  have hl : ((l.take j).map f).length = j := by simp; omega
  unfold preL
  rw [List.set_append_right _ _ (by omega), hl, Nat.sub_self, List.take_succ_eq_append_getElem h, List.map_append, List.append_assoc, List.drop_eq_getElem_cons h]
  rfl
theorem pre_same {α : Type} (f : α → α) (l : List α) (j : Nat) (h : j < l.length) (hf : f l[j] = l[j]) : preL f l (j + 1) = preL f l j := by
  rw [← pre_set f l j h, hf, ← pre_get f l j h, List.set_getElem_self]
end Go.Proofs.Ytkbmiajgmnfpfaa.NumK
namespace Go.Proofs.Ytkbmiajgmnfpfaa.NumK

/-- The number, the state, the need. -/
abbrev Mb := Int × Int × Int
/-- The number, the currency, the price, the cut. -/
abbrev As := Int × Int × Int × Int
/-- The number, the currency, the multiplier, the add-on, the price that was told, the last one; the shifts. -/
abbrev In := (Int × Int × Int × Int × Int × Int) × (Int × Int × Int × Int × Int × Int)
abbrev Rl := List Mb × List In × List As
abbrev mb0 : Mb := (0, 0, 0)
abbrev as0 : As := (0, 0, 0, 0)
abbrev in0 : In := ((0, 0, 0, 0, 0, 0), (0, 0, 0, 0, 0, 0))

def noMb (x : Mb) : Int := x.1
def noIn (x : In) : Int := x.1.1
def noAs (x : As) : Int := x.1

def wi (n lo hi : Int) : Bool := decide (lo ≤ n) && decide (n ≤ hi)
theorem wi_iff (n lo hi : Int) : wi n lo hi = true ↔ lo ≤ n ∧ n ≤ hi := by simp [wi]
def okMb (x : Mb) : Bool := wi x.1 1 16 && wi x.2.1 1 3 && wi x.2.2 0 4611686018427387904
def okAs (x : As) : Bool := wi x.1 1 6 && wi x.2.1 0 2 && wi x.2.2.1 1 1073741824 && wi x.2.2.2 0 10000
def okSh (n : Int) : Bool := wi n (-1073741824) 1073741824
def shIn (x : In) : List Int := [x.2.1, x.2.2.1, x.2.2.2.1, x.2.2.2.2.1, x.2.2.2.2.2.1, x.2.2.2.2.2.2]
def okIn6 (x : In) : Bool := wi x.1.1 1 8 && wi x.1.2.1 0 2 && wi x.1.2.2.1 1 1024 && wi x.1.2.2.2.1 0 1073741824 && wi x.1.2.2.2.2.1 0 1073741824 && wi x.1.2.2.2.2.2 0 1073741824
def okIn (x : In) : Bool := (shIn x).all okSh && okIn6 x

section
variable {α : Type}

/-! ### lists that rise -/
def Rise (no : α → Int) (l : List α) : Prop := l.Pairwise fun x y => no x < no y

def stepOK (ok : α → Bool) (no : α → Int) (d : α) (l : List α) (j : Nat) : Bool := ok (l.getD j d) && (decide (j = 0) || decide (no (l.getD (j - 1) d) < no (l.getD j d)))
def rightL (ok : α → Bool) (no : α → Int) (d : α) (l : List α) : Bool := (List.range l.length).all (stepOK ok no d l)

theorem range_all_succ (p : Nat → Bool) (j : Nat) : (List.range (j + 1)).all p = ((List.range j).all p && p j) := by
  rw [List.range_succ, List.all_append]; simp
theorem range_all_no (p : Nat → Bool) (j n : Nat) (h : j < n) (hp : p j = false) : false = (List.range n).all p := by
  symm
  rw [List.all_eq_false]
  exact ⟨j, List.mem_range.2 h, by rw [hp]; decide⟩

theorem getD_mem (l : List α) (d : α) (j : Nat) (h : j < l.length) : l.getD j d ∈ l := by
  rw [show l.getD j d = l[j] by simp [List.getD, h]]; exact List.getElem_mem h
theorem getD_at (l : List α) (d : α) (j : Nat) (h : j < l.length) : l.getD j d = l[j] := by simp [List.getD, h]

theorem rise_of_steps (no : α → Int) (d : α) (l : List α) (h : ∀ j, 0 < j → j < l.length → no (l.getD (j - 1) d) < no (l.getD j d)) : Rise no l := by
  unfold Rise
  rw [List.pairwise_iff_getElem]
  intro i j hi hj hij
  induction j with
  | zero => omega
  | succ j ih =>
    have h1 := h (j + 1) (by omega) hj
    rw [getD_at _ _ _ hj, show j + 1 - 1 = j by omega, getD_at _ _ _ (by omega)] at h1
    by_cases hc : i = j
    · subst hc; exact h1
    · exact Int.lt_trans (ih (by omega) (by omega)) h1

theorem rightL_iff (ok : α → Bool) (no : α → Int) (d : α) (l : List α) : rightL ok no d l = true ↔ (∀ x ∈ l, ok x = true) ∧ Rise no l := by
  unfold rightL
  rw [List.all_eq_true]
  constructor
  · intro h
    refine ⟨fun x hx => ?_, rise_of_steps no d l fun j h0 hj => ?_⟩
    · obtain ⟨j, hj, rfl⟩ := List.getElem_of_mem hx
      have h1 := h j (List.mem_range.2 hj)
      unfold stepOK at h1
      rw [getD_at _ _ _ hj] at h1
      simp only [Bool.and_eq_true] at h1
      exact h1.1
    · have h1 := h j (List.mem_range.2 hj)
      unfold stepOK at h1
      simp only [Bool.and_eq_true, Bool.or_eq_true, decide_eq_true_eq] at h1
      rcases h1.2 with h2 | h2
      · omega
      · exact h2
  · rintro ⟨h1, h2⟩ j hj
    have hj := List.mem_range.1 hj
    unfold stepOK
    simp only [Bool.and_eq_true, Bool.or_eq_true, decide_eq_true_eq]
    refine ⟨h1 _ (getD_mem l d j hj), ?_⟩
    by_cases h0 : j = 0
    · exact Or.inl h0
    · right
      rw [getD_at _ _ _ hj, getD_at _ _ _ (by omega)]
      exact List.pairwise_iff_getElem.1 h2 (j - 1) j (by omega) hj (by omega)

/-- Two lists that rise, and have the same in them, are one. -/
theorem rise_ext (no : α → Int) : ∀ (l m : List α), Rise no l → Rise no m → (∀ y, y ∈ l ↔ y ∈ m) → l = m
  | [], [], _, _, _ => rfl
  | [], y :: m, _, _, h => by have := (h y).2 (by simp); simp at this
  | x :: l, [], _, _, h => by have := (h x).1 (by simp); simp at this
  | x :: l, y :: m, hl, hm, h => by
    have h1 := List.pairwise_cons.1 hl
    have h2 := List.pairwise_cons.1 hm
    have hxy : x = y := by
      have a1 : x ∈ y :: m := (h x).1 (by simp)
      have a2 : y ∈ x :: l := (h y).2 (by simp)
      rcases List.mem_cons.1 a1 with e | a1
      · exact e
      · rcases List.mem_cons.1 a2 with e | a2
        · exact e.symm
        · have := h2.1 x a1
          have := h1.1 y a2
          omega
    subst hxy
    congr 1
    refine rise_ext no l m h1.2 h2.2 fun z => ⟨fun hz => ?_, fun hz => ?_⟩
    · rcases List.mem_cons.1 ((h z).1 (List.mem_cons_of_mem _ hz)) with e | e
      · have := h1.1 z hz; rw [e] at this; omega
      · exact e
    · rcases List.mem_cons.1 ((h z).2 (List.mem_cons_of_mem _ hz)) with e | e
      · have := h2.1 z hz; rw [e] at this; omega
      · exact e

theorem rise_one {no : α → Int} {l : List α} (h : Rise no l) {x y : α} (hx : x ∈ l) (hy : y ∈ l) (he : no x = no y) : x = y := by
  obtain ⟨i, hi, rfl⟩ := List.getElem_of_mem hx
  obtain ⟨j, hj, rfl⟩ := List.getElem_of_mem hy
  have hp := List.pairwise_iff_getElem.1 h
  rcases Nat.lt_trichotomy i j with h1 | h1 | h1
  · have := hp i j hi hj h1; omega
  · subst h1; rfl
  · have := hp j i hj hi h1; omega

/-! ### who is found -/
def hasL (no : α → Int) (l : List α) (n : Int) : Bool := l.any fun x => decide (no x = n)
def findL (no : α → Int) (d : α) (l : List α) (n : Int) : α := (l.find? fun x => decide (no x = n)).getD d

theorem hasL_iff (no : α → Int) (l : List α) (n : Int) : hasL no l n = true ↔ ∃ x ∈ l, no x = n := by
  unfold hasL; rw [List.any_eq_true]; simp
theorem find_yes (no : α → Int) (d : α) (l : List α) (n : Int) (j : Nat) (hj : j < l.length) (h0 : ∀ i, i < j → no (l.getD i d) ≠ n) (h1 : no (l.getD j d) = n) : hasL no l n = true ∧ findL no d l n = l.getD j d := by
  refine ⟨(hasL_iff no l n).2 ⟨_, getD_mem l d j hj, h1⟩, ?_⟩
  unfold findL
  have e : l.find? (fun x => decide (no x = n)) = some l[j] := by
    rw [List.find?_eq_some_iff_getElem]
    refine ⟨by rw [← getD_at l d j hj]; simpa using h1, j, hj, rfl, fun i hi => ?_⟩
    have := h0 i hi
    rw [getD_at l d i (by omega)] at this
    simpa using this
  rw [e, getD_at l d j hj]; rfl
theorem find_no (no : α → Int) (d : α) (l : List α) (n : Int) (h0 : ∀ i, i < l.length → no (l.getD i d) ≠ n) : hasL no l n = false ∧ findL no d l n = d := by
  have h1 : ∀ x ∈ l, no x ≠ n := fun x hx => by
    obtain ⟨i, hi, rfl⟩ := List.getElem_of_mem hx
    have := h0 i hi
    rwa [getD_at l d i hi] at this
  refine ⟨?_, ?_⟩
  · unfold hasL; rw [List.any_eq_false]; intro x hx; simpa using h1 x hx
  · unfold findL
    have e : l.find? (fun x => decide (no x = n)) = none := by rw [List.find?_eq_none]; intro x hx; simpa using h1 x hx
    rw [e]; rfl
theorem find_mem (no : α → Int) (d : α) (l : List α) (n : Int) (h : hasL no l n = true) : findL no d l n ∈ l ∧ no (findL no d l n) = n := by
  obtain ⟨x, hx, hn⟩ := (hasL_iff no l n).1 h
  unfold findL
  cases e : l.find? (fun x => decide (no x = n)) with
  | none => rw [List.find?_eq_none] at e; have := e x hx; simp [hn] at this
  | some y =>
    have h1 := List.find?_some e
    have h2 := List.mem_of_find?_eq_some e
    exact ⟨h2, by simpa using h1⟩
theorem find_at (no : α → Int) (d : α) (l : List α) (n : Int) (h : hasL no l n = true) : ∃ j, j < l.length ∧ l.getD j d = findL no d l n ∧ no (l.getD j d) = n := by
  obtain ⟨h1, h2⟩ := find_mem no d l n h
  obtain ⟨j, hj, e⟩ := List.getElem_of_mem h1
  exact ⟨j, hj, by rw [getD_at l d j hj, e], by rw [getD_at l d j hj, e, h2]⟩
theorem find_none (no : α → Int) (d : α) (l : List α) (n : Int) (h : hasL no l n = false) : findL no d l n = d := by
  refine (find_no no d l n fun i hi he => ?_).2
  have := (hasL_iff no l n).2 ⟨_, getD_mem l d i hi, he⟩
  rw [h] at this; cases this

/-! ### what is put -/
def putL (no : α → Int) (l : List α) (x : α) : List α := l.filter (fun y => decide (no y < no x)) ++ x :: l.filter (fun y => decide (no x < no y))

theorem mem_put (no : α → Int) (l : List α) (x y : α) : y ∈ putL no l x ↔ y = x ∨ (y ∈ l ∧ no y ≠ no x) := by
  unfold putL
  rw [List.mem_append, List.mem_cons, List.mem_filter, List.mem_filter]
  simp only [decide_eq_true_eq]
  constructor
  · rintro (⟨h1, h2⟩ | h | ⟨h1, h2⟩)
    · exact Or.inr ⟨h1, by omega⟩
    · exact Or.inl h
    · exact Or.inr ⟨h1, by omega⟩
  · rintro (h | ⟨h1, h2⟩)
    · exact Or.inr (Or.inl h)
    · rcases Int.lt_or_gt_of_ne h2 with h3 | h3
      · exact Or.inl ⟨h1, h3⟩
      · exact Or.inr (Or.inr ⟨h1, h3⟩)
theorem rise_put {no : α → Int} {l : List α} (h : Rise no l) (x : α) : Rise no (putL no l x) := by
  unfold Rise putL
  rw [List.pairwise_append]
  refine ⟨List.Pairwise.filter _ h, List.pairwise_cons.2 ⟨fun y hy => ?_, List.Pairwise.filter _ h⟩, fun y hy z hz => ?_⟩
  · rw [List.mem_filter] at hy; simpa using hy.2
  · rw [List.mem_filter] at hy
    have h1 : no y < no x := by simpa using hy.2
    rcases List.mem_cons.1 hz with rfl | hz
    · exact h1
    · rw [List.mem_filter] at hz
      have h2 : no x < no z := by simpa using hz.2
      omega
theorem right_put {ok : α → Bool} {no : α → Int} {d : α} {l : List α} (h : rightL ok no d l = true) (x : α) (hx : ok x = true) : rightL ok no d (putL no l x) = true := by
  obtain ⟨h1, h2⟩ := (rightL_iff ok no d l).1 h
  refine (rightL_iff _ _ _ _).2 ⟨fun y hy => ?_, rise_put h2 x⟩
  rcases (mem_put no l x y).1 hy with rfl | ⟨h3, _⟩
  · exact hx
  · exact h1 y h3

/-- What the binary search tells. -/
theorem put_at {no : α → Int} {d : α} {l : List α} (h : Rise no l) (x : α) (k : Nat) (hk : k ≤ l.length) (h1 : ∀ i, i < k → no (l.getD i d) < no x) (h2 : ∀ i, k ≤ i → i < l.length → no x ≤ no (l.getD i d)) :
    (l.take k = l.filter fun y => decide (no y < no x)) ∧ ((k < l.length ∧ no (l.getD k d) = no x) → l.drop (k + 1) = l.filter fun y => decide (no x < no y)) ∧ (¬ (k < l.length ∧ no (l.getD k d) = no x) → l.drop k = l.filter fun y => decide (no x < no y)) := by
  have mt : ∀ y, y ∈ l.take k ↔ y ∈ l.filter fun y => decide (no y < no x) := by
    intro y
    rw [List.mem_filter, decide_eq_true_eq]
    constructor
    · intro hy
      obtain ⟨i, hi, rfl⟩ := List.getElem_of_mem hy
      rw [List.length_take] at hi
      rw [List.getElem_take]
      have := h1 i (by omega)
      rw [getD_at l d i (by omega)] at this
      exact ⟨List.getElem_mem _, this⟩
    · rintro ⟨hy, hn⟩
      obtain ⟨i, hi, rfl⟩ := List.getElem_of_mem hy
      rcases Nat.lt_or_ge i k with h3 | h3
      · exact List.mem_take_iff_getElem.2 ⟨i, by omega, rfl⟩
      · have := h2 i h3 hi
        rw [getD_at l d i hi] at this; omega
  have md : ∀ m, (∀ i, m ≤ i → i < l.length → no x < no (l.getD i d)) → (∀ i, i < m → i < l.length → no (l.getD i d) ≤ no x) → l.drop m = l.filter fun y => decide (no x < no y) := by
    intro m g1 g2
    refine rise_ext no _ _ (List.Pairwise.sublist (List.drop_sublist _ _) h) (List.Pairwise.filter _ h) fun y => ?_
    rw [List.mem_filter, decide_eq_true_eq]
    constructor
    · intro hy
      obtain ⟨i, hi, rfl⟩ := List.getElem_of_mem hy
      rw [List.length_drop] at hi
      rw [List.getElem_drop]
      have := g1 (m + i) (by omega) (by omega)
      rw [getD_at l d _ (by omega)] at this
      exact ⟨List.getElem_mem _, this⟩
    · rintro ⟨hy, hn⟩
      obtain ⟨i, hi, rfl⟩ := List.getElem_of_mem hy
      rcases Nat.lt_or_ge i m with h3 | h3
      · have := g2 i h3 hi
        rw [getD_at l d i hi] at this; omega
      · exact List.mem_drop_iff_getElem.2 ⟨i - m, by omega, by congr 1; omega⟩
  have hp := List.pairwise_iff_getElem.1 h
  refine ⟨rise_ext no _ _ (List.Pairwise.sublist (List.take_sublist _ _) h) (List.Pairwise.filter _ h) mt, fun hh => md _ (fun i hi hl => ?_) (fun i hi hl => ?_), fun hh => md _ (fun i hi hl => ?_) (fun i hi hl => ?_)⟩
  · have := hp k i hh.1 hl (by omega)
    have e := hh.2
    rw [getD_at l d k hh.1] at e
    rw [getD_at l d i hl]; omega
  · rcases Nat.lt_or_ge i k with h3 | h3
    · have := h1 i h3; omega
    · obtain rfl : i = k := by omega
      omega
  · have h3 := h2 i hi hl
    by_cases hc : no x = no (l.getD i d)
    · exfalso
      apply hh
      rcases Nat.eq_or_lt_of_le hi with h4 | h4
      · subst h4; exact ⟨hl, hc.symm⟩
      · have h5 := h2 k (by omega) (by omega)
        have h6 := hp k i (by omega) hl h4
        rw [getD_at l d k (by omega)] at h5
        rw [getD_at l d i hl] at hc
        omega
    · omega
  · have := h1 i hi; omega

/-- One in the place of one with its number. -/
theorem mem_set {no : α → Int} {d : α} {l : List α} (h : Rise no l) (x y : α) (k : Nat) (hk : k < l.length) (hn : no (l.getD k d) = no x) : y ∈ l.set k x ↔ y = x ∨ (y ∈ l ∧ no y ≠ no x) := by
  have hp := List.pairwise_iff_getElem.1 h
  rw [getD_at l d k hk] at hn
  constructor
  · intro hy
    obtain ⟨i, hi, rfl⟩ := List.getElem_of_mem hy
    rw [List.length_set] at hi
    rw [List.getElem_set]
    by_cases hc : k = i
    · rw [if_pos hc]; exact Or.inl rfl
    · rw [if_neg hc]
      refine Or.inr ⟨List.getElem_mem _, fun he => hc ?_⟩
      rcases Nat.lt_trichotomy k i with h1 | h1 | h1
      · have := hp k i hk hi h1; omega
      · exact h1
      · have := hp i k hi hk h1; omega
  · rintro (rfl | ⟨hy, hne⟩)
    · exact List.mem_iff_getElem.2 ⟨k, by rw [List.length_set]; exact hk, by rw [List.getElem_set_self]⟩
    · obtain ⟨i, hi, rfl⟩ := List.getElem_of_mem hy
      refine List.mem_iff_getElem.2 ⟨i, by rw [List.length_set]; exact hi, ?_⟩
      rw [List.getElem_set, if_neg]
      intro hc; subst hc; exact hne hn
theorem rise_set {no : α → Int} {d : α} {l : List α} (h : Rise no l) (x : α) (k : Nat) (hk : k < l.length) (hn : no (l.getD k d) = no x) : Rise no (l.set k x) := by
  have hp := List.pairwise_iff_getElem.1 h
  rw [getD_at l d k hk] at hn
  unfold Rise
  rw [List.pairwise_iff_getElem]
  intro i j hi hj hij
  rw [List.length_set] at hi hj
  have := hp i j hi hj hij
  rw [List.getElem_set, List.getElem_set]
  by_cases h1 : k = i
  · rw [if_pos h1, if_neg (by omega)]; subst h1; omega
  · rw [if_neg h1]
    by_cases h2 : k = j
    · rw [if_pos h2]; subst h2; omega
    · rw [if_neg h2]; exact this
theorem put_set {no : α → Int} {d : α} {l : List α} (h : Rise no l) (x : α) (k : Nat) (hk : k < l.length) (hn : no (l.getD k d) = no x) : putL no l x = l.set k x :=
  rise_ext no _ _ (rise_put h x) (rise_set h x k hk hn) fun y => by rw [mem_put, mem_set h x y k hk hn]
theorem put_len_has {no : α → Int} {d : α} {l : List α} (h : Rise no l) (x : α) (hh : hasL no l (no x) = true) : (putL no l x).length = l.length := by
  obtain ⟨j, hj, _, hn⟩ := find_at no d l (no x) hh
  rw [put_set h x j hj hn, List.length_set]
theorem put_len_new {no : α → Int} {l : List α} (x : α) (hh : hasL no l (no x) = false) : (putL no l x).length = l.length + 1 := by
  unfold putL
  rw [List.length_append, List.length_cons]
  have : ∀ l : List α, hasL no l (no x) = false → (l.filter fun y => decide (no y < no x)).length + (l.filter fun y => decide (no x < no y)).length = l.length := by
    intro l
    induction l with
    | nil => intro _; rfl
    | cons y l ih =>
      intro h
      unfold hasL at h
      rw [List.any_cons, Bool.or_eq_false_iff] at h
      have h1 : no y ≠ no x := by simpa using h.1
      have h2 := ih h.2
      rw [List.filter_cons, List.filter_cons, List.length_cons]
      by_cases hc : no y < no x
      · rw [if_pos (by simpa using hc), if_neg (by simp; omega), List.length_cons]; omega
      · rw [if_neg (by simpa using hc), if_pos (by simp; omega), List.length_cons]; omega
  have := this l hh
  omega

/-! ### how long a list may be -/
theorem rise_len (no : α → Int) : ∀ (l : List α) (a : Int) (M : Nat), Rise no l → (∀ x ∈ l, a < no x ∧ no x ≤ a + M) → l.length ≤ M
  | [], _, _, _, _ => by simp
  | x :: l, a, M, h, hb => by
    have h1 := List.pairwise_cons.1 h
    have hx := hb x (by simp)
    have := rise_len no l (no x) (a + M - no x).toNat h1.2 fun y hy => ⟨h1.1 y hy, by have := hb y (by simp [hy]); omega⟩
    rw [List.length_cons]; omega

/-! ### as the document collects them -/
def collL (no : α → Int) (d : α) (l : List α) (x : α) (k : Nat) : List α :=
  (List.range k).flatMap fun i : Nat => if (i : Int) + 1 = no x then [x] else if hasL no l ((i : Int) + 1) = true then [findL no d l ((i : Int) + 1)] else []
theorem coll_zero (no : α → Int) (d : α) (l : List α) (x : α) : collL no d l x 0 = [] := rfl
theorem coll_succ (no : α → Int) (d : α) (l : List α) (x : α) (k : Nat) : collL no d l x (k + 1) = collL no d l x k ++ (if (k : Int) + 1 = no x then [x] else if hasL no l ((k : Int) + 1) = true then [findL no d l ((k : Int) + 1)] else []) := by
  unfold collL
  rw [List.range_succ, List.flatMap_append]; simp
theorem mem_coll (no : α → Int) (d : α) (l : List α) (x y : α) (k : Nat) (h : Rise no l) : y ∈ collL no d l x k ↔ (1 ≤ no y ∧ no y ≤ k) ∧ (y = x ∨ (y ∈ l ∧ no y ≠ no x)) := by
  unfold collL
  rw [List.mem_flatMap]
  constructor
  · rintro ⟨i, hi, hy⟩
    have hi := List.mem_range.1 hi
    split at hy
    · next e => obtain rfl := List.mem_singleton.1 hy; exact ⟨by omega, Or.inl rfl⟩
    · next e =>
      split at hy
      · next g =>
        obtain ⟨f1, f2⟩ := find_mem no d l _ g
        obtain rfl := List.mem_singleton.1 hy
        exact ⟨by omega, Or.inr ⟨f1, by omega⟩⟩
      · simp at hy
  · rintro ⟨⟨h1, h2⟩, h3⟩
    refine ⟨(no y - 1).toNat, List.mem_range.2 (by omega), ?_⟩
    have e : (((no y - 1).toNat : Nat) : Int) + 1 = no y := by omega
    rw [e]
    rcases h3 with rfl | ⟨h3, h4⟩
    · rw [if_pos rfl]; simp
    · have hh := (hasL_iff no l (no y)).2 ⟨y, h3, rfl⟩
      rw [if_neg h4, if_pos hh]
      obtain ⟨f1, f2⟩ := find_mem no d l _ hh
      rw [rise_one h f1 h3 f2]; simp
theorem rise_coll (no : α → Int) (d : α) (l : List α) (x : α) (h : Rise no l) : ∀ k, Rise no (collL no d l x k)
  | 0 => List.Pairwise.nil
  | k + 1 => by
    rw [coll_succ]
    unfold Rise
    rw [List.pairwise_append]
    refine ⟨rise_coll no d l x h k, ?_, fun y hy z hz => ?_⟩
    · split
      · simp
      · split <;> simp
    · have h1 := ((mem_coll no d l x y k h).1 hy).1.2
      split at hz
      · next e => obtain rfl := List.mem_singleton.1 hz; omega
      · split at hz
        · next g =>
          obtain ⟨f1, f2⟩ := find_mem no d l _ g
          obtain rfl := List.mem_singleton.1 hz
          omega
        · simp at hz
theorem coll_put (no : α → Int) (d : α) (l : List α) (x : α) (M : Nat) (h : Rise no l) (hl : ∀ y ∈ l, 1 ≤ no y ∧ no y ≤ M) (hx : 1 ≤ no x ∧ no x ≤ M) : collL no d l x M = putL no l x :=
  rise_ext no _ _ (rise_coll no d l x h M) (rise_put h x) fun y => by
    rw [mem_coll no d l x y M h, mem_put]
    constructor
    · exact fun hh => hh.2
    · rintro (rfl | hh)
      · exact ⟨hx, Or.inl rfl⟩
      · exact ⟨hl y hh.1, Or.inr hh⟩
end
end Go.Proofs.Ytkbmiajgmnfpfaa.NumK
namespace Go.Proofs.Ytkbmiajgmnfpfaa.NumK
open Go.RowKit
set_option linter.unusedVariables false

/-- Who, the instrument, the quantity, the cost. -/
abbrev Po := Int × Int × Int × Int
abbrev Ky := Int × Int
abbrev po0 : Po := (0, 0, 0, 0)
/-- The number, the buyer, the seller, the instrument, the quantity, the price; off? -/
abbrev Tr := (Int × Int × Int × Int × Int × Int) × Bool
abbrev tr0 : Tr := ((0, 0, 0, 0, 0, 0), false)
def noTr (t : Tr) : Int := t.1.1

def sizedB (q p : Int) : Bool := wi q 1 1048576 && wi p 1 1073741824
def sizedT (t : Tr) : Bool := sizedB t.1.2.2.2.2.1 t.1.2.2.2.2.2
theorem sizedT_iff (t : Tr) : sizedT t = true ↔ (1 ≤ t.1.2.2.2.2.1 ∧ t.1.2.2.2.2.1 ≤ 1048576) ∧ 1 ≤ t.1.2.2.2.2.2 ∧ t.1.2.2.2.2.2 ≤ 1073741824 := by
  unfold sizedT sizedB; rw [Bool.and_eq_true, wi_iff, wi_iff]
/-- Both legs, n pieces. -/
def twoL (t : Tr) (n : Int) : List Po := [(t.1.2.1, t.1.2.2.2.1, n, n * t.1.2.2.2.2.2), (t.1.2.2.1, t.1.2.2.2.1, -n, -n * t.1.2.2.2.2.2)]
def legsT (t : Tr) (back : Bool) : List Po := if sizedT t then twoL t (if back then -t.1.2.2.2.2.1 else t.1.2.2.2.2.1) else []

/-! ### the sums of legs -/
def qty (l : List Po) : Int := (l.map (·.2.2.1)).sum
def cst (l : List Po) : Int := (l.map (·.2.2.2)).sum
def okAm (x : Po) : Bool := isMoney x.2.2.1 && isMoney x.2.2.2
def sumPE (l : List Po) : Int := if l.all okAm then (if isMoney (qty l) && isMoney (cst l) then 0 else 1) else 3
def sumPQ (l : List Po) : Int := if sumPE l = 0 then qty l else 0
def sumPC (l : List Po) : Int := if sumPE l = 0 then cst l else 0

theorem sum_app (l m : List Int) : (l ++ m).sum = l.sum + m.sum := by
  induction l with
  | nil => simp
  | cons x l ih => rw [List.cons_append, List.sum_cons, List.sum_cons, ih, Int.add_assoc]
theorem qty_app (l m : List Po) : qty (l ++ m) = qty l + qty m := by unfold qty; rw [List.map_append, sum_app]
theorem cst_app (l m : List Po) : cst (l ++ m) = cst l + cst m := by unfold cst; rw [List.map_append, sum_app]
theorem qty_nil : qty [] = 0 := rfl
theorem cst_nil : cst [] = 0 := rfl
theorem qty_cons (x : Po) (l : List Po) : qty (x :: l) = x.2.2.1 + qty l := by unfold qty; rw [List.map_cons, List.sum_cons]
theorem cst_cons (x : Po) (l : List Po) : cst (x :: l) = x.2.2.2 + cst l := by unfold cst; rw [List.map_cons, List.sum_cons]
theorem two_flat (t : Tr) (n : Int) : qty (twoL t n) = 0 ∧ cst (twoL t n) = 0 := by
  unfold twoL
  refine ⟨?_, ?_⟩
  · show n + (-n + 0) = 0
    omega
  · show n * t.1.2.2.2.2.2 + (-n * t.1.2.2.2.2.2 + 0) = 0
    rw [Int.neg_mul]; omega
theorem legs_flat (t : Tr) (back : Bool) : qty (legsT t back) = 0 ∧ cst (legsT t back) = 0 := by
  unfold legsT
  split
  · exact two_flat t _
  · exact ⟨rfl, rfl⟩
theorem mul_in (q p : Int) (h : (1 ≤ q ∧ q ≤ 1048576) ∧ 1 ≤ p ∧ p ≤ 1073741824) : 0 ≤ q * p ∧ q * p ≤ 1125899906842624 := by
  refine ⟨Int.mul_nonneg (by omega) (by omega), ?_⟩
  calc q * p ≤ 1048576 * p := Int.mul_le_mul_of_nonneg_right (by omega) (by omega)
    _ ≤ 1048576 * 1073741824 := Int.mul_le_mul_of_nonneg_left (by omega) (by omega)

/-! ### keys -/
def keyP (x : Po) : Ky := (x.1, x.2.1)
def noK (k : Ky) : Int := k.1 * 8 + k.2
def noPo (x : Po) : Int := x.1 * 8 + x.2.1
def okK (k : Ky) : Bool := wi k.1 1 16 && wi k.2 1 8
theorem okK_iff (k : Ky) : okK k = true ↔ (1 ≤ k.1 ∧ k.1 ≤ 16) ∧ 1 ≤ k.2 ∧ k.2 ≤ 8 := by unfold okK; rw [Bool.and_eq_true, wi_iff, wi_iff]
theorem key_of_no {a b : Ky} (ha : okK a = true) (hb : okK b = true) (h : noK a = noK b) : a = b := by
  obtain ⟨a1, a2⟩ := a
  obtain ⟨b1, b2⟩ := b
  rw [okK_iff] at ha hb
  unfold noK at h
  simp only [Prod.mk.injEq]
  simp only at ha hb h
  omega
/-- The order of keys. -/
def kltB (a b : Ky) : Bool := decide (a.1 < b.1) || (decide (a.1 = b.1) && decide (a.2 < b.2))
theorem klt_no {a b : Ky} (ha : okK a = true) (hb : okK b = true) : kltB a b = decide (noK a < noK b) := by
  obtain ⟨a1, a2⟩ := a
  obtain ⟨b1, b2⟩ := b
  rw [okK_iff] at ha hb
  unfold noK kltB
  simp only at ha hb ⊢
  rw [Bool.eq_iff_iff]
  simp only [Bool.or_eq_true, Bool.and_eq_true, decide_eq_true_eq]
  omega

/-- The keys, in their order. -/
def gridK : List Ky := (List.range 128).map fun i : Nat => (((i / 8 : Nat) : Int) + 1, ((i % 8 : Nat) : Int) + 1)
theorem grid_len : gridK.length = 128 := by unfold gridK; simp
theorem grid_at (i : Nat) (h : i < 128) : gridK[i]'(by rw [grid_len]; exact h) = (((i / 8 : Nat) : Int) + 1, ((i % 8 : Nat) : Int) + 1) := by
  unfold gridK; rw [List.getElem_map, List.getElem_range]
theorem mem_grid (k : Ky) : k ∈ gridK ↔ okK k = true := by
  rw [okK_iff]
  unfold gridK
  rw [List.mem_map]
  constructor
  · rintro ⟨i, hi, rfl⟩
    have := List.mem_range.1 hi
    simp only
    omega
  · rintro ⟨h1, h2⟩
    obtain ⟨a, b⟩ := k
    simp only at h1 h2
    refine ⟨((a - 1) * 8 + (b - 1)).toNat, List.mem_range.2 (by omega), ?_⟩
    simp only [Prod.mk.injEq]
    omega
theorem grid_rise : gridK.Pairwise fun a b => noK a < noK b := by
  unfold gridK
  rw [List.pairwise_map]
  refine List.Pairwise.imp (R := fun i j : Nat => i < j) (fun {i j} h => ?_) List.pairwise_lt_range
  unfold noK
  simp only
  omega

/-! ### what lists have of a key, of an instrument -/
def isK (k : Ky) (x : Po) : Bool := decide (x.1 = k.1) && decide (x.2.1 = k.2)
theorem isK_iff (k : Ky) (x : Po) : isK k x = true ↔ keyP x = k := by
  obtain ⟨a, b⟩ := k
  unfold isK keyP
  simp
def qK (l : List Po) (k : Ky) : Int := qty (l.filter (isK k))
def cK (l : List Po) (k : Ky) : Int := cst (l.filter (isK k))
def isI (n : Int) (x : Po) : Bool := decide (x.2.1 = n)
def qI (l : List Po) (n : Int) : Int := qty (l.filter (isI n))
def cI (l : List Po) (n : Int) : Int := cst (l.filter (isI n))

theorem qK_app (l m : List Po) (k : Ky) : qK (l ++ m) k = qK l k + qK m k := by unfold qK; rw [List.filter_append, qty_app]
theorem cK_app (l m : List Po) (k : Ky) : cK (l ++ m) k = cK l k + cK m k := by unfold cK; rw [List.filter_append, cst_app]
theorem qI_app (l m : List Po) (n : Int) : qI (l ++ m) n = qI l n + qI m n := by unfold qI; rw [List.filter_append, qty_app]
theorem cI_app (l m : List Po) (n : Int) : cI (l ++ m) n = cI l n + cI m n := by unfold cI; rw [List.filter_append, cst_app]
theorem qK_cons (x : Po) (l : List Po) (k : Ky) : qK (x :: l) k = (if isK k x then x.2.2.1 else 0) + qK l k := by
  unfold qK; rw [List.filter_cons]; split
  · rw [qty_cons]
  · simp
theorem cK_cons (x : Po) (l : List Po) (k : Ky) : cK (x :: l) k = (if isK k x then x.2.2.2 else 0) + cK l k := by
  unfold cK; rw [List.filter_cons]; split
  · rw [cst_cons]
  · simp
theorem qI_cons (x : Po) (l : List Po) (n : Int) : qI (x :: l) n = (if isI n x then x.2.2.1 else 0) + qI l n := by
  unfold qI; rw [List.filter_cons]; split
  · rw [qty_cons]
  · simp
theorem cI_cons (x : Po) (l : List Po) (n : Int) : cI (x :: l) n = (if isI n x then x.2.2.2 else 0) + cI l n := by
  unfold cI; rw [List.filter_cons]; split
  · rw [cst_cons]
  · simp
theorem qK_nil (k : Ky) : qK [] k = 0 := rfl
theorem cK_nil (k : Ky) : cK [] k = 0 := rfl
theorem qI_nil (n : Int) : qI [] n = 0 := rfl
theorem cI_nil (n : Int) : cI [] n = 0 := rfl

/-- An instrument's sum by members. -/
def byW (f : Ky → Int) (n : Int) : Int := ((List.range 16).map fun i : Nat => f ((i : Int) + 1, n)).sum
theorem byW_congr {f g : Ky → Int} {n : Int} (h : ∀ w : Int, 1 ≤ w → w ≤ 16 → f (w, n) = g (w, n)) : byW f n = byW g n := by
  unfold byW
  congr 1
  refine List.map_congr_left fun i hi => ?_
  have := List.mem_range.1 hi
  exact h _ (by omega) (by omega)
theorem sum_map_add (f g : Nat → Int) : ∀ l : List Nat, (l.map fun i => f i + g i).sum = (l.map f).sum + (l.map g).sum
  | [] => rfl
  | x :: l => by simp only [List.map_cons, List.sum_cons]; rw [sum_map_add f g l]; omega
theorem byW_add (f g : Ky → Int) (n : Int) : byW (fun k => f k + g k) n = byW f n + byW g n := sum_map_add _ _ _
theorem sum_one (a : Int) (v : Int) : ∀ m : Nat, ((List.range m).map fun i : Nat => if a = (i : Int) + 1 then v else 0).sum = if 1 ≤ a ∧ a ≤ m then v else 0
  | 0 => by rw [if_neg (by omega)]; rfl
  | m + 1 => by
    rw [List.range_succ, List.map_append, sum_app, sum_one a v m]
    simp only [List.map_cons, List.map_nil, List.sum_cons, List.sum_nil]
    by_cases h : a = (m : Int) + 1
    · rw [if_pos h, if_neg (by omega), if_pos (by omega)]; omega
    · rw [if_neg h]
      by_cases h2 : 1 ≤ a ∧ a ≤ (m : Int)
      · rw [if_pos h2, if_pos (by omega)]; omega
      · rw [if_neg h2, if_neg (by omega)]; rfl
theorem sum_zeros : ∀ l : List Nat, (l.map fun _ => (0 : Int)).sum = 0
  | [] => rfl
  | x :: l => by rw [List.map_cons, List.sum_cons, sum_zeros l]; rfl
theorem qI_byW (l : List Po) (n : Int) (h : ∀ x ∈ l, 1 ≤ x.1 ∧ x.1 ≤ 16) : qI l n = byW (qK l) n := by
  induction l with
  | nil => unfold byW; simp only [qK_nil, qI_nil]; rw [sum_zeros]
  | cons x l ih =>
    rw [qI_cons, ih fun y hy => h y (List.mem_cons_of_mem _ hy), byW_congr (f := qK (x :: l)) (g := fun k => (if isK k x then x.2.2.1 else 0) + qK l k) fun w _ _ => qK_cons x l _, byW_add]
    congr 1
    have hx := h x (by simp)
    unfold byW isI isK
    by_cases hn : x.2.1 = n
    · simp only [hn, decide_true, Bool.and_true, decide_eq_true_eq, if_true]
      rw [sum_one, if_pos (by omega)]
    · simp only [hn, decide_false, Bool.and_false, Bool.false_eq_true, if_false]
      rw [sum_zeros]
theorem cI_byW (l : List Po) (n : Int) (h : ∀ x ∈ l, 1 ≤ x.1 ∧ x.1 ≤ 16) : cI l n = byW (cK l) n := by
  induction l with
  | nil => unfold byW; simp only [cK_nil, cI_nil]; rw [sum_zeros]
  | cons x l ih =>
    rw [cI_cons, ih fun y hy => h y (List.mem_cons_of_mem _ hy), byW_congr (f := cK (x :: l)) (g := fun k => (if isK k x then x.2.2.2 else 0) + cK l k) fun w _ _ => cK_cons x l _, byW_add]
    congr 1
    have hx := h x (by simp)
    unfold byW isI isK
    by_cases hn : x.2.1 = n
    · simp only [hn, decide_true, Bool.and_true, decide_eq_true_eq, if_true]
      rw [sum_one, if_pos (by omega)]
    · simp only [hn, decide_false, Bool.and_false, Bool.false_eq_true, if_false]
      rw [sum_zeros]

/-! ### positions out of a function of keys -/
def plOf (f : Ky → Int × Int) (k : Ky) : Option Po := if (f k).1 = 0 ∧ (f k).2 = 0 then none else some (k.1, k.2, (f k).1, (f k).2)
def plF (f : Ky → Int × Int) (m : Nat) : List Po := (gridK.take m).filterMap (plOf f)
def plA (f : Ky → Int × Int) : List Po := gridK.filterMap (plOf f)
theorem pl_zero (f : Ky → Int × Int) : plF f 0 = [] := rfl
theorem pl_all (f : Ky → Int × Int) : plF f 128 = plA f := by unfold plF plA; rw [List.take_of_length_le (by rw [grid_len]; omega)]
theorem pl_succ (f : Ky → Int × Int) (m : Nat) (h : m < 128) (k : Ky) (hk : k = (((m / 8 : Nat) : Int) + 1, ((m % 8 : Nat) : Int) + 1)) :
    plF f (m + 1) = plF f m ++ (if (f k).1 = 0 ∧ (f k).2 = 0 then [] else [(k.1, k.2, (f k).1, (f k).2)]) := by
  unfold plF
  rw [List.take_succ_eq_append_getElem (by rw [grid_len]; exact h), List.filterMap_append, grid_at m h, ← hk]
  congr 1
  unfold plOf
  rw [List.filterMap_cons]
  split <;> rename_i e
  · split at e
    · next h2 => rw [if_pos h2]; rfl
    · cases e
  · split at e
    · cases e
    · next h2 => cases e; rw [if_neg h2]; rfl
theorem mem_pl (f : Ky → Int × Int) (y : Po) : y ∈ plA f ↔ okK (keyP y) = true ∧ f (keyP y) = (y.2.2.1, y.2.2.2) ∧ ¬ (y.2.2.1 = 0 ∧ y.2.2.2 = 0) := by
  unfold plA
  rw [List.mem_filterMap]
  constructor
  · rintro ⟨k, hk, e⟩
    unfold plOf at e
    split at e
    · cases e
    · next h =>
      cases e
      refine ⟨(mem_grid _).1 hk, rfl, h⟩
  · rintro ⟨h1, h2, h3⟩
    refine ⟨keyP y, (mem_grid _).2 h1, ?_⟩
    unfold plOf
    rw [h2, if_neg h3]
    rfl
theorem rise_pl (f : Ky → Int × Int) : Rise noPo (plA f) := by
  unfold Rise plA
  rw [List.pairwise_filterMap]
  refine List.Pairwise.imp (fun {a b} h x hx y hy => ?_) grid_rise
  unfold plOf at hx hy
  split at hx
  · cases hx
  · split at hy
    · cases hy
    · cases hx; cases hy; exact h
theorem pl_congr {f g : Ky → Int × Int} (h : ∀ k, okK k = true → f k = g k) : plA f = plA g :=
  rise_ext noPo _ _ (rise_pl f) (rise_pl g) fun y => by
    rw [mem_pl, mem_pl]
    constructor
    · rintro ⟨h1, h2, h3⟩; exact ⟨h1, by rw [← h _ h1]; exact h2, h3⟩
    · rintro ⟨h1, h2, h3⟩; exact ⟨h1, by rw [h _ h1]; exact h2, h3⟩

/-! ### positions that rise have one of each key -/
theorem filter_one {l : List Po} (h : Rise noPo l) (hk : ∀ x ∈ l, okK (keyP x) = true) {y : Po} (hy : y ∈ l) : l.filter (isK (keyP y)) = [y] := by
  refine rise_ext noPo _ _ (List.Pairwise.filter _ h) (by simp [Rise]) fun z => ?_
  rw [List.mem_filter, isK_iff, List.mem_singleton]
  constructor
  · rintro ⟨h1, h2⟩
    refine rise_one h h1 hy ?_
    show noK (keyP z) = noK (keyP y)
    rw [h2]
  · rintro rfl; exact ⟨hy, rfl⟩
theorem filter_none {l : List Po} {k : Ky} (h : ∀ x ∈ l, keyP x ≠ k) : l.filter (isK k) = [] := by
  rw [List.filter_eq_nil_iff]
  intro x hx he
  exact h x hx ((isK_iff k x).1 he)
def sumK2 (l : List Po) (k : Ky) : Int × Int := (qK l k, cK l k)
theorem sum_of_mem {l : List Po} (h : Rise noPo l) (hk : ∀ x ∈ l, okK (keyP x) = true) {y : Po} (hy : y ∈ l) : sumK2 l (keyP y) = (y.2.2.1, y.2.2.2) := by
  unfold sumK2 qK cK
  rw [filter_one h hk hy, qty_cons, qty_nil, cst_cons, cst_nil, Int.add_zero, Int.add_zero]
theorem sum_of_not {l : List Po} {k : Ky} (h : ∀ x ∈ l, keyP x ≠ k) : sumK2 l k = (0, 0) := by
  unfold sumK2 qK cK
  rw [filter_none h]; rfl
/-- Such positions are what their sums say. -/
theorem pl_self {l : List Po} (h : Rise noPo l) (hk : ∀ x ∈ l, okK (keyP x) = true ∧ ¬ (x.2.2.1 = 0 ∧ x.2.2.2 = 0)) : plA (sumK2 l) = l :=
  rise_ext noPo _ _ (rise_pl _) h fun y => by
    rw [mem_pl]
    constructor
    · rintro ⟨h1, h2, h3⟩
      by_cases hc : ∃ x ∈ l, keyP x = keyP y
      · obtain ⟨x, hx, e⟩ := hc
        have h4 := sum_of_mem h (fun x hx => (hk x hx).1) hx
        rw [e, h2] at h4
        have e1 : x = y := by
          obtain ⟨x1, x2, x3, x4⟩ := x
          obtain ⟨y1, y2, y3, y4⟩ := y
          simp only [keyP, Prod.mk.injEq] at e h4 ⊢
          exact ⟨e.1, e.2, h4.1.symm, h4.2.symm⟩
        rw [← e1]; exact hx
      · rw [sum_of_not fun x hx he => hc ⟨x, hx, he⟩] at h2
        simp only [Prod.mk.injEq] at h2
        exact absurd ⟨h2.1.symm, h2.2.symm⟩ h3
    · intro hy
      exact ⟨(hk y hy).1, sum_of_mem h (fun x hx => (hk x hx).1) hy, (hk y hy).2⟩
theorem sum_pl (f : Ky → Int × Int) (k : Ky) (hk : okK k = true) : sumK2 (plA f) k = f k := by
  by_cases hc : (f k).1 = 0 ∧ (f k).2 = 0
  · rw [sum_of_not]
    · rw [Prod.ext_iff]; exact ⟨hc.1.symm, hc.2.symm⟩
    · intro x hx he
      obtain ⟨h1, h2, h3⟩ := (mem_pl f x).1 hx
      rw [he] at h2
      rw [h2] at hc
      exact h3 hc
  · have hm : (k.1, k.2, (f k).1, (f k).2) ∈ plA f := (mem_pl f _).2 ⟨hk, rfl, hc⟩
    exact sum_of_mem (rise_pl f) (fun x hx => ((mem_pl f x).1 hx).1) hm

/-- The first position of a key. -/
def ofP (l : List Po) (k : Ky) : Po := (l.find? (isK k)).getD (k.1, k.2, 0, 0)
theorem of_sum {l : List Po} (h : Rise noPo l) (hk : ∀ x ∈ l, okK (keyP x) = true) (k : Ky) : ofP l k = (k.1, k.2, qK l k, cK l k) := by
  unfold ofP
  by_cases hc : ∃ x ∈ l, keyP x = k
  · obtain ⟨x, hx, rfl⟩ := hc
    have h1 := filter_one h hk hx
    have h2 : l.find? (isK (keyP x)) = some x := by rw [← List.head?_filter, h1]; rfl
    have h3 := sum_of_mem h hk hx
    unfold sumK2 at h3
    simp only [Prod.mk.injEq] at h3
    rw [h2, h3.1, h3.2]
    rfl
  · have h1 := filter_none fun x hx he => hc ⟨x, hx, he⟩
    have h2 : l.find? (isK k) = none := by rw [← List.head?_filter, h1]; rfl
    have h3 := sum_of_not fun x hx he => hc ⟨x, hx, he⟩
    unfold sumK2 at h3
    simp only [Prod.mk.injEq] at h3
    rw [h2, h3.1, h3.2]
    rfl
end Go.Proofs.Ytkbmiajgmnfpfaa.NumK
namespace Go.Proofs.Ytkbmiajgmnfpfaa.NumK
open Go.RowKit
set_option linter.unusedVariables false

/-- The last number, the trades, the positions. -/
abbrev Bk := Int × List Tr × List Po
abbrev bk0 : Bk := (0, [], [])

def okQ (q : Int) : Bool := wi q (-1099511627776) 1099511627776
theorem okQ_iff (q : Int) : okQ q = true ↔ -1099511627776 ≤ q ∧ q ≤ 1099511627776 := by unfold okQ; rw [wi_iff]
def okPo (x : Po) : Bool := okK (keyP x) && okQ x.2.2.1 && isMoney x.2.2.2 && !(decide (x.2.2.1 = 0) && decide (x.2.2.2 = 0))
theorem okPo_iff (x : Po) : okPo x = true ↔ okK (keyP x) = true ∧ okQ x.2.2.1 = true ∧ isMoney x.2.2.2 = true ∧ ¬ (x.2.2.1 = 0 ∧ x.2.2.2 = 0) := by
  unfold okPo
  simp only [Bool.and_eq_true, Bool.not_eq_true', Bool.and_eq_false_iff, decide_eq_false_iff_not]
  constructor
  · rintro ⟨⟨⟨h1, h2⟩, h3⟩, h4⟩; exact ⟨h1, h2, h3, by omega⟩
  · rintro ⟨h1, h2, h3, h4⟩; exact ⟨⟨⟨h1, h2⟩, h3⟩, by omega⟩
/-- Of each instrument they add up to 0. -/
def flatI (l : List Po) : Bool := (List.range 8).all fun i : Nat => decide (qI l ((i : Int) + 1) = 0)
theorem flatI_iff (l : List Po) : flatI l = true ↔ ∀ n : Int, 1 ≤ n → n ≤ 8 → qI l n = 0 := by
  unfold flatI
  rw [List.all_eq_true]
  constructor
  · intro h n h1 h2
    have := h (n - 1).toNat (List.mem_range.2 (by omega))
    rw [show (((n - 1).toNat : Nat) : Int) + 1 = n by omega] at this
    simpa using this
  · intro h i hi
    have := List.mem_range.1 hi
    simpa using h ((i : Int) + 1) (by omega) (by omega)
def numsT (t : Tr) : Bool := sizedT t && wi t.1.2.1 1 16 && wi t.1.2.2.1 1 16 && !(decide (t.1.2.1 = t.1.2.2.1)) && wi t.1.2.2.2.1 1 8
def okTr (next : Int) (t : Tr) : Bool := numsT t && wi t.1.1 1 next
def rightPs (l : List Po) : Bool := rightL okPo noPo po0 l && flatI l
def rightTs (next : Int) (l : List Tr) : Bool := rightL (okTr next) noTr tr0 l && decide (l.length ≤ 128)
def rightB (b : Bk) : Bool := wi b.1 0 1099511627776 && rightTs b.1 b.2.1 && rightPs b.2.2

theorem rightPs_iff (l : List Po) : rightPs l = true ↔ (∀ x ∈ l, okPo x = true) ∧ Rise noPo l ∧ ∀ n : Int, 1 ≤ n → n ≤ 8 → qI l n = 0 := by
  unfold rightPs
  rw [Bool.and_eq_true, rightL_iff, flatI_iff, and_assoc]
theorem rightB_iff (b : Bk) : rightB b = true ↔ (0 ≤ b.1 ∧ b.1 ≤ 1099511627776) ∧ (((∀ t ∈ b.2.1, okTr b.1 t = true) ∧ Rise noTr b.2.1) ∧ b.2.1.length ≤ 128) ∧ rightPs b.2.2 = true := by
  unfold rightB rightTs
  rw [Bool.and_eq_true, Bool.and_eq_true, Bool.and_eq_true, rightL_iff, wi_iff, decide_eq_true_eq, and_assoc]
theorem numsT_iff (t : Tr) : numsT t = true ↔ sizedT t = true ∧ (1 ≤ t.1.2.1 ∧ t.1.2.1 ≤ 16) ∧ (1 ≤ t.1.2.2.1 ∧ t.1.2.2.1 ≤ 16) ∧ t.1.2.1 ≠ t.1.2.2.1 ∧ 1 ≤ t.1.2.2.2.1 ∧ t.1.2.2.2.1 ≤ 8 := by
  unfold numsT
  simp only [Bool.and_eq_true, wi_iff, Bool.not_eq_true', decide_eq_false_iff_not, and_assoc, ne_eq]

/-! ### adding -/
def okLeg (x : Po) : Bool := okK (keyP x) && okAm x
def addF (l legs : List Po) (k : Ky) : Int × Int := (qK l k + qK legs k, cK l k + cK legs k)
def fits (f : Ky → Int × Int) : Bool := gridK.all fun k => okQ (f k).1 && isMoney (f k).2
theorem fits_iff (f : Ky → Int × Int) : fits f = true ↔ ∀ k, okK k = true → okQ (f k).1 = true ∧ isMoney (f k).2 = true := by
  unfold fits
  rw [List.all_eq_true]
  constructor
  · intro h k hk
    have := h k ((mem_grid k).2 hk)
    rwa [Bool.and_eq_true] at this
  · intro h k hk
    rw [Bool.and_eq_true]
    exact h k ((mem_grid k).1 hk)
def addE (b : Bk) (legs : List Po) : Int := if rightB b then (if legs.all okLeg then (if flatI legs then (if fits (addF b.2.2 legs) then 0 else 1) else 12) else 3) else 14
def addB (b : Bk) (legs : List Po) : Bk := if addE b legs = 0 then (b.1, b.2.1, plA (addF b.2.2 legs)) else bk0
theorem addE_ok {b : Bk} {legs : List Po} : addE b legs = 0 ↔ rightB b = true ∧ legs.all okLeg = true ∧ flatI legs = true ∧ fits (addF b.2.2 legs) = true := by
  unfold addE
  by_cases h1 : rightB b = true
  · rw [if_pos h1]
    by_cases h2 : legs.all okLeg = true
    · rw [if_pos h2]
      by_cases h3 : flatI legs = true
      · rw [if_pos h3]
        by_cases h4 : fits (addF b.2.2 legs) = true
        · rw [if_pos h4]; exact ⟨fun _ => ⟨h1, h2, h3, h4⟩, fun _ => rfl⟩
        · rw [if_neg h4]; exact ⟨fun h => absurd h (by decide), fun h => absurd h.2.2.2 h4⟩
      · rw [if_neg h3]; exact ⟨fun h => absurd h (by decide), fun h => absurd h.2.2.1 h3⟩
    · rw [if_neg h2]; exact ⟨fun h => absurd h (by decide), fun h => absurd h.2.1 h2⟩
  · rw [if_neg h1]; exact ⟨fun h => absurd h (by decide), fun h => absurd h.1 h1⟩
theorem addB_ok {b : Bk} {legs : List Po} (h : addE b legs = 0) : addB b legs = (b.1, b.2.1, plA (addF b.2.2 legs)) := by unfold addB; rw [if_pos h]

theorem right_keys {l : List Po} (h : rightPs l = true) : ∀ x ∈ l, okK (keyP x) = true := fun x hx => ((okPo_iff x).1 (((rightPs_iff l).1 h).1 x hx)).1
theorem right_self {l : List Po} (h : rightPs l = true) : plA (sumK2 l) = l := by
  obtain ⟨h1, h2, h3⟩ := (rightPs_iff l).1 h
  exact pl_self h2 fun x hx => ⟨((okPo_iff x).1 (h1 x hx)).1, ((okPo_iff x).1 (h1 x hx)).2.2.2⟩
theorem right_fits {l : List Po} (h : rightPs l = true) : fits (sumK2 l) = true := by
  obtain ⟨h1, h2, h3⟩ := (rightPs_iff l).1 h
  refine (fits_iff _).2 fun k hk => ?_
  by_cases hc : ∃ x ∈ l, keyP x = k
  · obtain ⟨x, hx, rfl⟩ := hc
    rw [sum_of_mem h2 (right_keys h) hx]
    have := (okPo_iff x).1 (h1 x hx)
    exact ⟨this.2.1, this.2.2.1⟩
  · rw [sum_of_not fun x hx he => hc ⟨x, hx, he⟩]
    exact ⟨by decide, by decide⟩
theorem who_in {x : Po} (h : okK (keyP x) = true) : 1 ≤ x.1 ∧ x.1 ≤ 16 := ((okK_iff _).1 h).1

theorem qI_pl (f : Ky → Int × Int) (n : Int) (h1 : 1 ≤ n) (h2 : n ≤ 8) : qI (plA f) n = byW (fun k => (f k).1) n := by
  rw [qI_byW _ _ fun x hx => who_in ((mem_pl f x).1 hx).1]
  refine byW_congr fun w w1 w2 => ?_
  have := sum_pl f (w, n) ((okK_iff _).2 ⟨⟨w1, w2⟩, h1, h2⟩)
  exact (Prod.ext_iff.1 this).1
theorem cI_pl (f : Ky → Int × Int) (n : Int) (h1 : 1 ≤ n) (h2 : n ≤ 8) : cI (plA f) n = byW (fun k => (f k).2) n := by
  rw [cI_byW _ _ fun x hx => who_in ((mem_pl f x).1 hx).1]
  refine byW_congr fun w w1 w2 => ?_
  have := sum_pl f (w, n) ((okK_iff _).2 ⟨⟨w1, w2⟩, h1, h2⟩)
  exact (Prod.ext_iff.1 this).2
theorem leg_keys {legs : List Po} (h : legs.all okLeg = true) : ∀ x ∈ legs, okK (keyP x) = true := fun x hx => by
  have := List.all_eq_true.1 h x hx
  unfold okLeg at this
  rw [Bool.and_eq_true] at this
  exact this.1
theorem qI_add {l legs : List Po} (hl : ∀ x ∈ l, okK (keyP x) = true) (hg : ∀ x ∈ legs, okK (keyP x) = true) (n : Int) (h1 : 1 ≤ n) (h2 : n ≤ 8) : qI (plA (addF l legs)) n = qI l n + qI legs n := by
  rw [qI_pl _ n h1 h2, qI_byW l n fun x hx => who_in (hl x hx), qI_byW legs n fun x hx => who_in (hg x hx), ← byW_add]
  rfl
theorem cI_add {l legs : List Po} (hl : ∀ x ∈ l, okK (keyP x) = true) (hg : ∀ x ∈ legs, okK (keyP x) = true) (n : Int) (h1 : 1 ≤ n) (h2 : n ≤ 8) : cI (plA (addF l legs)) n = cI l n + cI legs n := by
  rw [cI_pl _ n h1 h2, cI_byW l n fun x hx => who_in (hl x hx), cI_byW legs n fun x hx => who_in (hg x hx), ← byW_add]
  rfl
theorem right_addP {l legs : List Po} (hl : rightPs l = true) (hg : legs.all okLeg = true) (hf : flatI legs = true) (h : fits (addF l legs) = true) : rightPs (plA (addF l legs)) = true := by
  have h3 := ((rightPs_iff l).1 hl).2.2
  refine (rightPs_iff _).2 ⟨fun x hx => ?_, rise_pl _, fun n h1 h2 => ?_⟩
  · obtain ⟨h4, h5, h6⟩ := (mem_pl _ x).1 hx
    have h7 := (fits_iff _).1 h _ h4
    rw [h5] at h7
    exact (okPo_iff x).2 ⟨h4, h7.1, h7.2, h6⟩
  · rw [qI_add (right_keys hl) (leg_keys hg) n h1 h2, h3 n h1 h2, (flatI_iff legs).1 hf n h1 h2]; rfl
theorem right_add {b : Bk} {legs : List Po} (h : addE b legs = 0) : rightB (addB b legs) = true := by
  obtain ⟨h1, h2, h3, h4⟩ := addE_ok.1 h
  rw [addB_ok h]
  obtain ⟨g1, g2, g3⟩ := (rightB_iff b).1 h1
  exact (rightB_iff _).2 ⟨g1, g2, right_addP g3 h2 h3 h4⟩

/-! ### the legs of a trade -/
theorem qI_two (t : Tr) (n m : Int) : qI (twoL t n) m = 0 := by
  show qI [_, _] m = 0
  rw [qI_cons, qI_cons, qI_nil]
  unfold isI
  simp only
  split <;> omega
theorem cI_two (t : Tr) (n m : Int) : cI (twoL t n) m = 0 := by
  show cI [_, _] m = 0
  rw [cI_cons, cI_cons, cI_nil]
  unfold isI
  simp only [Int.neg_mul]
  split <;> omega
theorem qI_legs (t : Tr) (back : Bool) (m : Int) : qI (legsT t back) m = 0 := by
  unfold legsT
  split
  · exact qI_two t _ m
  · rfl
theorem cI_legs (t : Tr) (back : Bool) (m : Int) : cI (legsT t back) m = 0 := by
  unfold legsT
  split
  · exact cI_two t _ m
  · rfl
theorem legs_flatI (t : Tr) (back : Bool) : flatI (legsT t back) = true := (flatI_iff _).2 fun n _ _ => qI_legs t back n
theorem nums_legs {t : Tr} (h : numsT t = true) (back : Bool) : legsT t back = twoL t (if back then -t.1.2.2.2.2.1 else t.1.2.2.2.2.1) := by
  unfold legsT; rw [if_pos ((numsT_iff t).1 h).1]
/-- Within so much. -/
def wm (n m : Int) : Prop := -m ≤ n ∧ n ≤ m
theorem two_small {t : Tr} (h : numsT t = true) {n : Int} (hn : n = t.1.2.2.2.2.1 ∨ n = -t.1.2.2.2.2.1) : wm n 1048576 ∧ wm (n * t.1.2.2.2.2.2) 1125899906842624 := by
  have h2 := (sizedT_iff t).1 ((numsT_iff t).1 h).1
  have h3 := mul_in _ _ h2
  unfold wm
  rcases hn with rfl | rfl
  · omega
  · rw [Int.neg_mul]; omega
theorem legs_ok {t : Tr} (h : numsT t = true) (back : Bool) : (legsT t back).all okLeg = true := by
  have hk := (numsT_iff t).1 h
  obtain ⟨s1, s2⟩ := two_small h (n := if back then -t.1.2.2.2.2.1 else t.1.2.2.2.2.1) (by cases back <;> simp)
  rw [nums_legs h]
  generalize (if back then -t.1.2.2.2.2.1 else t.1.2.2.2.2.1) = n at *
  unfold wm at s1 s2
  rw [List.all_eq_true]
  intro x hx
  unfold okLeg okAm
  rw [Bool.and_eq_true, Bool.and_eq_true, okK_iff, isMoney_iff, isMoney_iff]
  unfold twoL at hx
  rcases List.mem_cons.1 hx with rfl | hx
  · refine ⟨⟨hk.2.1, hk.2.2.2.2⟩, ?_, ?_⟩ <;> simp only <;> omega
  · rcases List.mem_cons.1 hx with rfl | hx
    · refine ⟨⟨hk.2.2.1, hk.2.2.2.2⟩, ?_, ?_⟩
      · simp only; omega
      · simp only [Int.neg_mul]; omega
    · cases hx
def sideB (t : Tr) (k : Ky) : Bool := isK k (t.1.2.1, t.1.2.2.2.1, 0, 0)
def sideS (t : Tr) (k : Ky) : Bool := isK k (t.1.2.2.1, t.1.2.2.2.1, 0, 0)
theorem qK_two (t : Tr) (m : Int) (k : Ky) : qK (twoL t m) k = (if sideB t k then m else 0) + ((if sideS t k then -m else 0) + 0) := by
  show qK [_, _] k = _
  rw [qK_cons, qK_cons, qK_nil]; rfl
theorem cK_two (t : Tr) (m : Int) (k : Ky) : cK (twoL t m) k = (if sideB t k then m * t.1.2.2.2.2.2 else 0) + ((if sideS t k then -m * t.1.2.2.2.2.2 else 0) + 0) := by
  show cK [_, _] k = _
  rw [cK_cons, cK_cons, cK_nil]; rfl
theorem sides_two {t : Tr} (h : numsT t = true) (k : Ky) : ¬ (sideB t k = true ∧ sideS t k = true) := by
  have hk := (numsT_iff t).1 h
  rintro ⟨h1, h2⟩
  unfold sideB at h1
  unfold sideS at h2
  rw [isK_iff] at h1 h2
  have := h1.trans h2.symm
  unfold keyP at this
  simp only [Prod.mk.injEq] at this
  exact hk.2.2.2.1 this.1
theorem qK_small {t : Tr} (h : numsT t = true) (back : Bool) (k : Ky) : wm (qK (legsT t back) k) 1048576 ∧ wm (cK (legsT t back) k) 1125899906842624 := by
  obtain ⟨s1, s2⟩ := two_small h (n := if back then -t.1.2.2.2.2.1 else t.1.2.2.2.2.1) (by cases back <;> simp)
  have hne := sides_two h k
  rw [nums_legs h, qK_two, cK_two]
  generalize (if back then -t.1.2.2.2.2.1 else t.1.2.2.2.2.1) = n at *
  rw [Int.neg_mul]
  generalize n * t.1.2.2.2.2.2 = c at *
  generalize sideB t k = x at *
  generalize sideS t k = y at *
  unfold wm at *
  cases x <;> cases y <;> simp at * <;> omega
/-- The legs, and what takes them back. -/
theorem legs_back (t : Tr) (k : Ky) : qK (legsT t true) k = -qK (legsT t false) k ∧ cK (legsT t true) k = -cK (legsT t false) k := by
  unfold legsT
  by_cases h : sizedT t = true
  · rw [if_pos h, if_pos h]
    generalize t.1.2.2.2.2.1 = n
    rw [qK_two, qK_two, cK_two, cK_two]
    simp only [Bool.false_eq_true, if_true, if_false, Int.neg_mul, Int.neg_neg]
    refine ⟨?_, ?_⟩
    · split <;> split <;> omega
    · split <;> split <;> omega
  · rw [if_neg h, if_neg h]; exact ⟨rfl, rfl⟩
/-- Only what a trade says beside its number counts. -/
def bare (t : Tr) : Int × Int × Int × Int × Int := t.1.2
theorem legs_bare {t u : Tr} (h : t.1.2 = u.1.2) (back : Bool) : legsT t back = legsT u back := by
  unfold legsT sizedT twoL
  rw [h]
theorem nums_bare {t u : Tr} (h : t.1.2 = u.1.2) : numsT t = numsT u := by
  unfold numsT sizedT
  rw [h]
end Go.Proofs.Ytkbmiajgmnfpfaa.NumK
namespace Go.Proofs.Ytkbmiajgmnfpfaa.NumK
open Go.RowKit
set_option linter.unusedVariables false

/-- The trade as it stands in the book. -/
def asNo (t : Tr) (n : Int) : Tr := ((n, t.1.2), false)
def enterE (b : Bk) (t : Tr) : Int := if rightB b then (if numsT t then (if 128 ≤ b.2.1.length then 9 else (if b.1 = 1099511627776 then 1 else addE b (legsT t false))) else 3) else 14
def enterB (b : Bk) (t : Tr) : Bk := if enterE b t = 0 then (b.1 + 1, b.2.1 ++ [asNo t (b.1 + 1)], plA (addF b.2.2 (legsT t false))) else bk0
def enterN (b : Bk) (t : Tr) : Int := if enterE b t = 0 then b.1 + 1 else 0
theorem enterE_ok {b : Bk} {t : Tr} : enterE b t = 0 ↔ rightB b = true ∧ numsT t = true ∧ b.2.1.length < 128 ∧ b.1 ≠ 1099511627776 ∧ addE b (legsT t false) = 0 := by
  unfold enterE
  by_cases h1 : rightB b = true
  · rw [if_pos h1]
    by_cases h2 : numsT t = true
    · rw [if_pos h2]
      by_cases h3 : 128 ≤ b.2.1.length
      · rw [if_pos h3]; exact ⟨fun h => absurd h (by decide), fun h => absurd h.2.2.1 (by omega)⟩
      · rw [if_neg h3]
        by_cases h4 : b.1 = 1099511627776
        · rw [if_pos h4]; exact ⟨fun h => absurd h (by decide), fun h => absurd h4 h.2.2.2.1⟩
        · rw [if_neg h4]; exact ⟨fun h => ⟨h1, h2, by omega, h4, h⟩, fun h => h.2.2.2.2⟩
    · rw [if_neg h2]; exact ⟨fun h => absurd h (by decide), fun h => absurd h.2.1 h2⟩
  · rw [if_neg h1]; exact ⟨fun h => absurd h (by decide), fun h => absurd h.1 h1⟩
theorem enterB_ok {b : Bk} {t : Tr} (h : enterE b t = 0) : enterB b t = (b.1 + 1, b.2.1 ++ [asNo t (b.1 + 1)], plA (addF b.2.2 (legsT t false))) := by unfold enterB; rw [if_pos h]
theorem enterN_ok {b : Bk} {t : Tr} (h : enterE b t = 0) : enterN b t = b.1 + 1 := by unfold enterN; rw [if_pos h]

/-- A trade with that number that is not off. -/
def liveT (no : Int) (t : Tr) : Bool := decide (t.1.1 = no) && !t.2
theorem liveT_iff (no : Int) (t : Tr) : liveT no t = true ↔ t.1.1 = no ∧ t.2 = false := by unfold liveT; simp
def theT (l : List Tr) (no : Int) : Tr := (l.find? (liveT no)).getD tr0
def offT (no : Int) (t : Tr) : Tr := if liveT no t then (t.1, true) else t
def offL (l : List Tr) (no : Int) : List Tr := l.map (offT no)
def cancelE (b : Bk) (no : Int) : Int := if rightB b then (if b.2.1.any (liveT no) then addE b (legsT (theT b.2.1 no) true) else 10) else 14
def cancelB (b : Bk) (no : Int) : Bk := if cancelE b no = 0 then (b.1, offL b.2.1 no, plA (addF b.2.2 (legsT (theT b.2.1 no) true))) else bk0
theorem cancelE_ok {b : Bk} {no : Int} : cancelE b no = 0 ↔ rightB b = true ∧ b.2.1.any (liveT no) = true ∧ addE b (legsT (theT b.2.1 no) true) = 0 := by
  unfold cancelE
  by_cases h1 : rightB b = true
  · rw [if_pos h1]
    by_cases h2 : b.2.1.any (liveT no) = true
    · rw [if_pos h2]; exact ⟨fun h => ⟨h1, h2, h⟩, fun h => h.2.2⟩
    · rw [if_neg h2]; exact ⟨fun h => absurd h (by decide), fun h => absurd h.2.1 h2⟩
  · rw [if_neg h1]; exact ⟨fun h => absurd h (by decide), fun h => absurd h.1 h1⟩
theorem cancelB_ok {b : Bk} {no : Int} (h : cancelE b no = 0) : cancelB b no = (b.1, offL b.2.1 no, plA (addF b.2.2 (legsT (theT b.2.1 no) true))) := by unfold cancelB; rw [if_pos h]
theorem the_live {l : List Tr} {no : Int} (h : l.any (liveT no) = true) : theT l no ∈ l ∧ liveT no (theT l no) = true := by
  rw [List.any_eq_true] at h
  obtain ⟨x, hx, hl⟩ := h
  unfold theT
  cases e : l.find? (liveT no) with
  | none => rw [List.find?_eq_none] at e; exact absurd hl (e x hx)
  | some y => exact ⟨List.mem_of_find?_eq_some e, List.find?_some e⟩
theorem off_bare (no : Int) (t : Tr) : (offT no t).1 = t.1 := by unfold offT; split <;> rfl
theorem off_len (l : List Tr) (no : Int) : (offL l no).length = l.length := by unfold offL; rw [List.length_map]
theorem off_dead (l : List Tr) (no : Int) : (offL l no).any (liveT no) = false := by
  rw [List.any_eq_false]
  intro x hx
  unfold offL at hx
  obtain ⟨t, ht, rfl⟩ := List.mem_map.1 hx
  unfold offT
  by_cases h : liveT no t = true
  · rw [if_pos h, liveT_iff]; simp
  · rw [if_neg h]; exact h
theorem okTr_off (n no : Int) (t : Tr) : okTr n (offT no t) = okTr n t := by
  unfold okTr
  rw [off_bare, nums_bare (t := offT no t) (u := t) (by rw [off_bare])]
theorem rise_off {l : List Tr} (h : Rise noTr l) (no : Int) : Rise noTr (offL l no) := by
  unfold Rise offL
  rw [List.pairwise_map]
  refine List.Pairwise.imp (fun {a b} hab => ?_) h
  show (offT no a).1.1 < (offT no b).1.1
  rw [off_bare, off_bare]; exact hab

/-- Then enter the same at other terms. -/
def termsT (t : Tr) (q p : Int) : Tr := ((t.1.1, t.1.2.1, t.1.2.2.1, t.1.2.2.2.1, q, p), t.2)
def corrE (b : Bk) (no q p : Int) : Int := if cancelE b no = 0 then enterE (cancelB b no) (termsT (theT b.2.1 no) q p) else cancelE b no
def corrB (b : Bk) (no q p : Int) : Bk := if cancelE b no = 0 then enterB (cancelB b no) (termsT (theT b.2.1 no) q p) else bk0
def corrN (b : Bk) (no q p : Int) : Int := if cancelE b no = 0 then enterN (cancelB b no) (termsT (theT b.2.1 no) q p) else 0
def clearB (b : Bk) : Bk := (b.1, [], b.2.2)

/-! ### what is right stays so -/
theorem right_enter {b : Bk} {t : Tr} (h : enterE b t = 0) : rightB (enterB b t) = true := by
  obtain ⟨h1, h2, h3, h4, h5⟩ := enterE_ok.1 h
  rw [enterB_ok h]
  obtain ⟨g1, ⟨⟨g2, g3⟩, g4⟩, g5⟩ := (rightB_iff b).1 h1
  obtain ⟨_, a2, a3, a4⟩ := addE_ok.1 h5
  refine (rightB_iff _).2 ⟨by simp only; omega, ⟨⟨fun x hx => ?_, ?_⟩, ?_⟩, right_addP g5 a2 a3 a4⟩
  · simp only at hx ⊢
    rcases List.mem_append.1 hx with hx | hx
    · have := g2 x hx
      unfold okTr at this ⊢
      rw [Bool.and_eq_true, wi_iff] at this ⊢
      exact ⟨this.1, this.2.1, by omega⟩
    · obtain rfl := List.mem_singleton.1 hx
      unfold okTr
      rw [Bool.and_eq_true, wi_iff]
      refine ⟨by rw [nums_bare (t := asNo t (b.1 + 1)) (u := t) rfl]; exact h2, ?_⟩
      show 1 ≤ b.1 + 1 ∧ b.1 + 1 ≤ b.1 + 1
      omega
  · simp only
    unfold Rise
    rw [List.pairwise_append]
    refine ⟨g3, by simp, fun x hx y hy => ?_⟩
    obtain rfl := List.mem_singleton.1 hy
    have := g2 x hx
    unfold okTr at this
    rw [Bool.and_eq_true, wi_iff] at this
    show x.1.1 < b.1 + 1
    omega
  · simp only [List.length_append, List.length_cons, List.length_nil]; omega
theorem right_cancel {b : Bk} {no : Int} (h : cancelE b no = 0) : rightB (cancelB b no) = true := by
  obtain ⟨h1, h2, h3⟩ := cancelE_ok.1 h
  rw [cancelB_ok h]
  obtain ⟨g1, ⟨⟨g2, g3⟩, g4⟩, g5⟩ := (rightB_iff b).1 h1
  obtain ⟨_, a2, a3, a4⟩ := addE_ok.1 h3
  refine (rightB_iff _).2 ⟨g1, ⟨⟨fun x hx => ?_, rise_off g3 no⟩, by simp only; rw [off_len]; exact g4⟩, right_addP g5 a2 a3 a4⟩
  obtain ⟨t, ht, rfl⟩ := List.mem_map.1 hx
  rw [okTr_off]; exact g2 t ht
theorem right_corr {b : Bk} {no q p : Int} (h : corrE b no q p = 0) : rightB (corrB b no q p) = true := by
  unfold corrE at h
  unfold corrB
  by_cases hc : cancelE b no = 0
  · rw [if_pos hc] at h ⊢; exact right_enter h
  · rw [if_neg hc] at h; exact absurd h hc
theorem right_clear {b : Bk} (h : rightB b = true) : rightB (clearB b) = true := by
  obtain ⟨g1, ⟨⟨g2, g3⟩, g4⟩, g5⟩ := (rightB_iff b).1 h
  exact (rightB_iff _).2 ⟨g1, ⟨⟨fun x hx => absurd hx (by simp [clearB]), List.Pairwise.nil⟩, by simp [clearB]⟩, g5⟩
theorem right_zero : rightB bk0 = true := by decide +kernel

/-- Costs add up to 0, too; and few have been entered. -/
structure GB (b : Bk) (k : Nat) : Prop where
  right : rightB b = true
  cost : ∀ n : Int, 1 ≤ n → n ≤ 8 → cI b.2.2 n = 0
  next : b.1 ≤ k
theorem GB.poss {b : Bk} {k : Nat} (h : GB b k) : rightPs b.2.2 = true := ((rightB_iff b).1 h.right).2.2
theorem GB.zero : GB bk0 0 := ⟨right_zero, fun _ _ _ => rfl, by decide⟩
theorem GB.mono {b : Bk} {k m : Nat} (h : GB b k) (hm : k ≤ m) : GB b m := ⟨h.right, h.cost, by have := h.next; omega⟩
theorem cost_add {l legs : List Po} (hl : rightPs l = true) (hg : legs.all okLeg = true) (h1 : ∀ n : Int, 1 ≤ n → n ≤ 8 → cI l n = 0) (h2 : ∀ n, cI legs n = 0) : ∀ n : Int, 1 ≤ n → n ≤ 8 → cI (plA (addF l legs)) n = 0 := fun n n1 n2 => by
  rw [cI_add (right_keys hl) (leg_keys hg) n n1 n2, h1 n n1 n2, h2 n]; rfl
theorem GB.enter {b : Bk} {k : Nat} {t : Tr} (h : GB b k) (he : enterE b t = 0) : GB (enterB b t) (k + 1) := by
  obtain ⟨h1, h2, h3, h4, h5⟩ := enterE_ok.1 he
  obtain ⟨_, a2, a3, a4⟩ := addE_ok.1 h5
  refine ⟨right_enter he, ?_, ?_⟩
  · rw [enterB_ok he]; exact cost_add h.poss a2 h.cost fun n => cI_legs t false n
  · rw [enterB_ok he]; have := h.next; simp only; omega
theorem GB.cancel {b : Bk} {k : Nat} {no : Int} (h : GB b k) (he : cancelE b no = 0) : GB (cancelB b no) k := by
  obtain ⟨h1, h2, h3⟩ := cancelE_ok.1 he
  obtain ⟨_, a2, a3, a4⟩ := addE_ok.1 h3
  refine ⟨right_cancel he, ?_, ?_⟩
  · rw [cancelB_ok he]; exact cost_add h.poss a2 h.cost fun n => cI_legs _ true n
  · rw [cancelB_ok he]; exact h.next
theorem GB.corr {b : Bk} {k : Nat} {no q p : Int} (h : GB b k) (he : corrE b no q p = 0) : GB (corrB b no q p) (k + 1) := by
  unfold corrE at he
  unfold corrB
  by_cases hc : cancelE b no = 0
  · rw [if_pos hc] at he ⊢; exact (h.cancel hc).enter he
  · rw [if_neg hc] at he; exact absurd he hc
theorem GB.clear {b : Bk} {k : Nat} (h : GB b k) : GB (clearB b) k := ⟨right_clear h.right, h.cost, h.next⟩

/-- The sums of an instrument's positions. -/
def bothOK (l : List Po) (n : Int) : Bool := (l.filter (isI n)).all okAm && (isMoney (qI l n) && isMoney (cI l n))
def bothQ (l : List Po) (n : Int) : Int := if bothOK l n then qI l n else 0
def bothC (l : List Po) (n : Int) : Int := if bothOK l n then cI l n else 0
theorem GB.both {b : Bk} {k : Nat} (h : GB b k) (n : Int) (n1 : 1 ≤ n) (n2 : n ≤ 8) : bothQ b.2.2 n = 0 ∧ bothC b.2.2 n = 0 := by
  unfold bothQ bothC
  rw [((rightPs_iff _).1 h.poss).2.2 n n1 n2, h.cost n n1 n2]
  constructor <;> split <;> rfl

/-! ### there and back -/
theorem add_of {l l' legs legs' : List Po} (h : ∀ k, okK k = true → (qK l' k, cK l' k) = (qK l k, cK l k) ∧ (qK legs' k, cK legs' k) = (qK legs k, cK legs k)) : ∀ k, okK k = true → addF l' legs' k = addF l legs k := fun k hk => by
  obtain ⟨h1, h2⟩ := h k hk
  simp only [Prod.mk.injEq] at h1 h2
  unfold addF
  rw [h1.1, h1.2, h2.1, h2.2]
theorem fits_congr {f g : Ky → Int × Int} (h : ∀ k, okK k = true → f k = g k) : fits f = fits g := by
  rw [Bool.eq_iff_iff, fits_iff, fits_iff]
  constructor
  · intro h2 k hk; rw [← h k hk]; exact h2 k hk
  · intro h2 k hk; rw [h k hk]; exact h2 k hk
theorem sum_add (l legs : List Po) (k : Ky) (hk : okK k = true) : qK (plA (addF l legs)) k = qK l k + qK legs k ∧ cK (plA (addF l legs)) k = cK l k + cK legs k := by
  have := sum_pl (addF l legs) k hk
  unfold sumK2 addF at this
  simp only [Prod.mk.injEq] at this
  exact this
/-- What is added, and taken back. -/
theorem back_add (l : List Po) (t : Tr) : ∀ k, okK k = true → addF (plA (addF l (legsT t false))) (legsT t true) k = sumK2 l k := fun k hk => by
  obtain ⟨h1, h2⟩ := sum_add l (legsT t false) k hk
  obtain ⟨h3, h4⟩ := legs_back t k
  unfold addF at h1 h2 ⊢
  rw [h1, h2, h3, h4]
  unfold sumK2
  simp only [Prod.mk.injEq]
  omega
theorem back_poss {l : List Po} (h : rightPs l = true) (t : Tr) : plA (addF (plA (addF l (legsT t false))) (legsT t true)) = l := by
  rw [pl_congr (back_add l t)]; exact right_self h
theorem back_fits {l : List Po} (h : rightPs l = true) (t : Tr) : fits (addF (plA (addF l (legsT t false))) (legsT t true)) = true := by
  rw [fits_congr (back_add l t)]; exact right_fits h
/-- And then added again. -/
theorem again_add (l : List Po) (t : Tr) (m : List Po) (hm : m = l) : addF m (legsT t false) = addF l (legsT t false) := by rw [hm]

theorem live_last {b : Bk} {t : Tr} (h : rightB b = true) : (b.2.1 ++ [asNo t (b.1 + 1)]).any (liveT (b.1 + 1)) = true ∧ theT (b.2.1 ++ [asNo t (b.1 + 1)]) (b.1 + 1) = asNo t (b.1 + 1) := by
  obtain ⟨g1, ⟨⟨g2, g3⟩, g4⟩, g5⟩ := (rightB_iff b).1 h
  have hl : liveT (b.1 + 1) (asNo t (b.1 + 1)) = true := (liveT_iff _ _).2 ⟨rfl, rfl⟩
  have hn : ∀ x ∈ b.2.1, ¬ liveT (b.1 + 1) x = true := fun x hx he => by
    have := g2 x hx
    unfold okTr at this
    rw [Bool.and_eq_true, wi_iff] at this
    have h2 := ((liveT_iff _ _).1 he).1
    omega
  refine ⟨?_, ?_⟩
  · rw [List.any_append]; simp [hl]
  · unfold theT
    rw [List.find?_append, List.find?_eq_none.2 hn]
    simp [hl]
theorem enter_cancel {b : Bk} {t : Tr} (he : enterE b t = 0) : cancelE (enterB b t) (b.1 + 1) = 0 ∧ (cancelB (enterB b t) (b.1 + 1)).2.2 = b.2.2 ∧ cancelE (cancelB (enterB b t) (b.1 + 1)) (b.1 + 1) = 10 := by
  obtain ⟨h1, h2, h3, h4, h5⟩ := enterE_ok.1 he
  have hr := right_enter he
  have hp := ((rightB_iff b).1 h1).2.2
  obtain ⟨l1, l2⟩ := live_last (t := t) h1
  have hleg : legsT (asNo t (b.1 + 1)) true = legsT t true := legs_bare rfl true
  have hc : cancelE (enterB b t) (b.1 + 1) = 0 := by
    refine cancelE_ok.2 ⟨hr, ?_, ?_⟩
    · rw [enterB_ok he]; exact l1
    · refine addE_ok.2 ⟨hr, ?_, ?_, ?_⟩
      · rw [enterB_ok he]; simp only; rw [l2, hleg]; exact legs_ok h2 true
      · rw [enterB_ok he]; simp only; rw [l2, hleg]; exact legs_flatI t true
      · rw [enterB_ok he]; simp only; rw [l2, hleg]; exact back_fits hp t
  refine ⟨hc, ?_, ?_⟩
  · rw [cancelB_ok hc, enterB_ok he]
    simp only
    rw [l2, hleg]
    exact back_poss hp t
  · have hr2 := right_cancel hc
    unfold cancelE
    rw [if_pos hr2]
    rw [cancelB_ok hc]
    simp only
    rw [off_dead]
    rfl
theorem terms_self (t : Tr) (n : Int) : (termsT (asNo t n) t.1.2.2.2.2.1 t.1.2.2.2.2.2).1.2 = t.1.2 := rfl
theorem enter_corr {b : Bk} {t : Tr} (he : enterE b t = 0) (hl : b.2.1.length + 1 < 128) (hx : b.1 + 1 < 1099511627776) :
    corrE (enterB b t) (b.1 + 1) t.1.2.2.2.2.1 t.1.2.2.2.2.2 = 0 ∧ corrN (enterB b t) (b.1 + 1) t.1.2.2.2.2.1 t.1.2.2.2.2.2 = b.1 + 2 ∧ (corrB (enterB b t) (b.1 + 1) t.1.2.2.2.2.1 t.1.2.2.2.2.2).2.2 = (enterB b t).2.2 := by
  obtain ⟨h1, h2, h3, h4, h5⟩ := enterE_ok.1 he
  obtain ⟨c1, c2, c3⟩ := enter_cancel he
  obtain ⟨a1, a2, a3, a4⟩ := addE_ok.1 h5
  have hr2 := right_cancel c1
  have hthe : theT (enterB b t).2.1 (b.1 + 1) = asNo t (b.1 + 1) := by rw [enterB_ok he]; exact (live_last h1).2
  have hd : (cancelB (enterB b t) (b.1 + 1)).1 = b.1 + 1 ∧ (cancelB (enterB b t) (b.1 + 1)).2.1.length = b.2.1.length + 1 := by
    rw [cancelB_ok c1, enterB_ok he]
    refine ⟨rfl, ?_⟩
    simp only
    rw [off_len, List.length_append]; rfl
  have hleg : legsT (termsT (asNo t (b.1 + 1)) t.1.2.2.2.2.1 t.1.2.2.2.2.2) false = legsT t false := legs_bare (terms_self t _) false
  unfold corrE corrN corrB
  rw [if_pos c1, if_pos c1, if_pos c1, hthe]
  generalize cancelB (enterB b t) (b.1 + 1) = d at *
  have hE : enterE d (termsT (asNo t (b.1 + 1)) t.1.2.2.2.2.1 t.1.2.2.2.2.2) = 0 := by
    refine enterE_ok.2 ⟨hr2, by rw [nums_bare (terms_self t _)]; exact h2, by omega, by omega, ?_⟩
    rw [hleg]
    exact addE_ok.2 ⟨hr2, a2, a3, by rw [c2]; exact a4⟩
  refine ⟨hE, ?_, ?_⟩
  · rw [enterN_ok hE, hd.1]; omega
  · rw [enterB_ok hE, enterB_ok he]
    simp only
    rw [hleg, c2]
end Go.Proofs.Ytkbmiajgmnfpfaa.NumK
namespace Go.Proofs.Ytkbmiajgmnfpfaa.NumK
open Go.RowKit
set_option linter.unusedVariables false

/-! ### parts -/
theorem okPo_leg {x : Po} (h : okPo x = true) : okLeg x = true := by
  obtain ⟨h1, h2, h3, h4⟩ := (okPo_iff x).1 h
  unfold okLeg okAm
  rw [h1, h3, (isMoney_iff _).2 (by have := (okQ_iff _).1 h2; omega)]; rfl
theorem right_legs {l : List Po} (h : rightPs l = true) : l.all okLeg = true := List.all_eq_true.2 fun x hx => okPo_leg (((rightPs_iff l).1 h).1 x hx)
theorem right_flat {l : List Po} (h : rightPs l = true) : flatI l = true := (flatI_iff l).2 ((rightPs_iff l).1 h).2.2
theorem of_right {l : List Po} (h : rightPs l = true) (k : Ky) : ofP l k = (k.1, k.2, qK l k, cK l k) := of_sum ((rightPs_iff l).1 h).2.1 (right_keys h) k
theorem of_self {l : List Po} (h : rightPs l = true) {x : Po} (hx : x ∈ l) : qK l (keyP x) = x.2.2.1 ∧ cK l (keyP x) = x.2.2.2 := by
  have := sum_of_mem ((rightPs_iff l).1 h).2.1 (right_keys h) hx
  unfold sumK2 at this
  simpa using this
theorem parts_add {b c : Bk} (hb : rightB b = true) (hc : rightB c = true) (he : addE b c.2.2 = 0) :
    (∀ x ∈ c.2.2, ofP (addB b c.2.2).2.2 (keyP x) = (x.1, x.2.1, (ofP b.2.2 (keyP x)).2.2.1 + x.2.2.1, (ofP b.2.2 (keyP x)).2.2.2 + x.2.2.2))
    ∧ (∀ y ∈ b.2.2, (ofP c.2.2 (keyP y)).2.2.1 = 0 → (ofP c.2.2 (keyP y)).2.2.2 = 0 → ofP (addB b c.2.2).2.2 (keyP y) = y)
    ∧ addE c b.2.2 = 0 ∧ (addB c b.2.2).2.2 = (addB b c.2.2).2.2 := by
  have pb := ((rightB_iff b).1 hb).2.2
  have pc := ((rightB_iff c).1 hc).2.2
  have hx := right_add he
  have px := ((rightB_iff _).1 hx).2.2
  obtain ⟨_, a2, a3, a4⟩ := addE_ok.1 he
  have e2 : addE c b.2.2 = 0 := addE_ok.2 ⟨hc, right_legs pb, right_flat pb, by
    rw [fits_congr (g := addF b.2.2 c.2.2) fun k hk => by unfold addF; simp only [Prod.mk.injEq]; omega]; exact a4⟩
  refine ⟨fun x hm => ?_, fun y hm h1 h2 => ?_, e2, ?_⟩
  · have hk := right_keys pc x hm
    rw [of_right px, of_right pb]
    rw [addB_ok he]
    obtain ⟨s1, s2⟩ := sum_add b.2.2 c.2.2 (keyP x) hk
    obtain ⟨t1, t2⟩ := of_self pc hm
    simp only
    rw [s1, s2, t1, t2]; rfl
  · have hk := right_keys pb y hm
    rw [of_right pc] at h1 h2
    rw [of_right px, addB_ok he]
    obtain ⟨s1, s2⟩ := sum_add b.2.2 c.2.2 (keyP y) hk
    obtain ⟨t1, t2⟩ := of_self pb hm
    simp only at h1 h2 ⊢
    rw [s1, s2, t1, t2, h1, h2, Int.add_zero, Int.add_zero]
    rfl
  · rw [addB_ok he, addB_ok e2]
    refine pl_congr fun k hk => ?_
    unfold addF; simp only [Prod.mk.injEq]; omega

/-! ### entered one behind the other -/
def entS (b : Bk) (t : Tr) : Bk := if enterE b t = 0 then enterB b t else b
def entL (l : List Tr) : Bk := l.foldl entS bk0
theorem ent_nil : entL [] = bk0 := rfl
theorem ent_snoc (l : List Tr) (t : Tr) : entL (l ++ [t]) = entS (entL l) t := by unfold entL; rw [List.foldl_append]; rfl
def legsOf (l : List Tr) : List Po := (l.filter numsT).flatMap fun t => legsT t false
theorem legsOf_app (l m : List Tr) : legsOf (l ++ m) = legsOf l ++ legsOf m := by unfold legsOf; rw [List.filter_append, List.flatMap_append]
theorem legsOf_one {t : Tr} (h : numsT t = true) : legsOf [t] = legsT t false := by unfold legsOf; simp [h]
theorem legsOf_no {t : Tr} (h : numsT t = false) : legsOf [t] = [] := by unfold legsOf; simp [h]
def cntT (l : List Tr) : Nat := (l.filter numsT).length
theorem cnt_app (l m : List Tr) : cntT (l ++ m) = cntT l + cntT m := by unfold cntT; rw [List.filter_append, List.length_append]
theorem cnt_le (l : List Tr) : cntT l ≤ l.length := List.length_filter_le _ _
theorem small_legs : ∀ (l : List Tr) (k : Ky), wm (qK (legsOf l) k) (l.length * 1048576) ∧ wm (cK (legsOf l) k) (l.length * 1125899906842624)
  | [], k => by unfold wm; exact ⟨by simp [legsOf, qK_nil], by simp [legsOf, cK_nil]⟩
  | t :: l, k => by
    obtain ⟨h1, h2⟩ := small_legs l k
    have e : legsOf (t :: l) = legsOf [t] ++ legsOf l := legsOf_app [t] l
    rw [e, qK_app, cK_app, List.length_cons]
    unfold wm at *
    by_cases h : numsT t = true
    · obtain ⟨s1, s2⟩ := qK_small h false k
      unfold wm at s1 s2
      rw [legsOf_one h]
      omega
    · rw [legsOf_no (by simpa using h), qK_nil, cK_nil]
      omega
/-- What stands behind them. -/
structure EntP (l : List Tr) (b : Bk) : Prop where
  right : rightB b = true
  next : b.1 = cntT l
  len : b.2.1.length = cntT l
  poss : b.2.2 = plA (sumK2 (legsOf l))
theorem EntP.nil : EntP [] bk0 := ⟨right_zero, rfl, rfl, by decide +kernel⟩
theorem ent_add (l m : List Po) : ∀ k, okK k = true → addF (plA (sumK2 l)) m k = sumK2 (l ++ m) k := fun k hk => by
  have := sum_pl (sumK2 l) k hk
  unfold sumK2 at this ⊢
  simp only [Prod.mk.injEq] at this
  unfold addF
  rw [qK_app, cK_app, this.1, this.2]
theorem fits_small {f : Ky → Int × Int} (h : ∀ k, wm (f k).1 (1000 * 1048576) ∧ wm (f k).2 (1000 * 1125899906842624)) : fits f = true := (fits_iff f).2 fun k _ => by
  obtain ⟨h1, h2⟩ := h k
  unfold wm at h1 h2
  rw [okQ_iff, isMoney_iff]
  omega
theorem EntP.may {l : List Tr} {b : Bk} (h : EntP l b) (hl : l.length ≤ 400) {t : Tr} (ht : numsT t = true) (hc : cntT l < 128) : enterE b t = 0 := by
  have hn := h.next
  have hlen := h.len
  refine enterE_ok.2 ⟨h.right, ht, by omega, by omega, addE_ok.2 ⟨h.right, legs_ok ht false, legs_flatI t false, ?_⟩⟩
  rw [h.poss, fits_congr (ent_add _ _)]
  refine fits_small fun k => ?_
  obtain ⟨a1, a2⟩ := small_legs l k
  obtain ⟨b1, b2⟩ := qK_small ht false k
  unfold sumK2
  simp only
  rw [qK_app, cK_app]
  unfold wm at *
  omega
theorem EntP.mayNot {l : List Tr} {b : Bk} (h : EntP l b) {t : Tr} (ht : numsT t = false) : enterE b t = 3 := by
  unfold enterE
  rw [if_pos h.right, if_neg (by rw [ht]; decide)]
theorem EntP.step {l : List Tr} {b : Bk} (h : EntP l b) {t : Tr} (he : enterE b t = 0) : EntP (l ++ [t]) (enterB b t) := by
  obtain ⟨h1, h2, h3, h4, h5⟩ := enterE_ok.1 he
  have hr := right_enter he
  rw [enterB_ok he] at hr ⊢
  have e1 : cntT [t] = 1 := by unfold cntT; simp [h2]
  refine ⟨hr, ?_, ?_, ?_⟩
  · show b.1 + 1 = _
    rw [h.next, cnt_app, e1]; omega
  · show (b.2.1 ++ [_]).length = _
    rw [List.length_append, h.len, cnt_app, e1]; rfl
  · show plA _ = _
    rw [legsOf_app, legsOf_one h2, h.poss]
    exact pl_congr (ent_add _ _)
theorem EntP.skip {l : List Tr} {b : Bk} (h : EntP l b) {t : Tr} (ht : numsT t = false) : EntP (l ++ [t]) b := by
  have e1 : cntT [t] = 0 := by unfold cntT; simp [ht]
  refine ⟨h.right, by rw [h.next, cnt_app, e1]; omega, by rw [h.len, cnt_app, e1, Nat.add_zero], by rw [h.poss, legsOf_app, legsOf_no ht, List.append_nil]⟩
/-- What is not refused is entered; what is refused is left. -/
theorem EntP.next1 {l : List Tr} {b : Bk} (h : EntP l b) (hl : l.length < 128) (t : Tr) : (enterE b t = 0 ∧ EntP (l ++ [t]) (enterB b t)) ∨ (enterE b t = 3 ∧ EntP (l ++ [t]) b) := by
  by_cases ht : numsT t = true
  · have he := h.may (by omega) ht (by have := cnt_le l; omega)
    exact Or.inl ⟨he, h.step he⟩
  · have ht : numsT t = false := by simpa using ht
    exact Or.inr ⟨h.mayNot ht, h.skip ht⟩
theorem sums_rev : ∀ (l : List Tr) (k : Ky), sumK2 (legsOf l.reverse) k = sumK2 (legsOf l) k
  | [], k => rfl
  | t :: l, k => by
    have ih := sums_rev l k
    have e : legsOf (t :: l) = legsOf [t] ++ legsOf l := legsOf_app [t] l
    unfold sumK2 at ih ⊢
    simp only [Prod.mk.injEq] at ih ⊢
    rw [List.reverse_cons, legsOf_app, e, qK_app, cK_app, qK_app, cK_app]
    omega
theorem cnt_rev (l : List Tr) : cntT l.reverse = cntT l := by unfold cntT; rw [List.filter_reverse, List.length_reverse]
theorem ent_rev {l : List Tr} {a b : Bk} (ha : EntP l a) (hb : EntP l.reverse b) : a.2.2 = b.2.2 ∧ a.1 = b.1 := by
  refine ⟨?_, ?_⟩
  · rw [ha.poss, hb.poss]
    exact pl_congr fun k _ => (sums_rev l k).symm
  · rw [ha.next, hb.next, cnt_rev]

/-! ### a book that is full -/
structure FullP (t : Tr) (i : Nat) (b : Bk) : Prop where
  ent : EntP (List.replicate i t) b
  trades : b.2.1 = (List.range i).map fun j : Nat => asNo t ((j : Int) + 1)
theorem FullP.zero (t : Tr) : FullP t 0 bk0 := ⟨EntP.nil, rfl⟩
theorem cnt_rep {t : Tr} (ht : numsT t = true) (i : Nat) : cntT (List.replicate i t) = i := by unfold cntT; rw [List.filter_replicate, ht]; simp
theorem FullP.may {t : Tr} {i : Nat} {b : Bk} (h : FullP t i b) (ht : numsT t = true) (hi : i < 128) : enterE b t = 0 ∧ enterN b t = (i : Int) + 1 ∧ FullP t (i + 1) (enterB b t) := by
  have he := h.ent.may (by rw [List.length_replicate]; omega) ht (by rw [cnt_rep ht]; exact hi)
  have hn := h.ent.next
  rw [cnt_rep ht] at hn
  refine ⟨he, by rw [enterN_ok he, hn], ?_, ?_⟩
  · have := h.ent.step he
    rw [show List.replicate (i + 1) t = List.replicate i t ++ [t] from List.replicate_succ']
    exact this
  · rw [enterB_ok he]
    show b.2.1 ++ [asNo t (b.1 + 1)] = _
    rw [h.trades, hn, List.range_succ, List.map_append]; rfl
theorem FullP.full {t : Tr} {b : Bk} (h : FullP t 128 b) (ht : numsT t = true) (u : Tr) (hu : numsT u = true) : enterE b u = 9 := by
  have hl := h.ent.len
  rw [cnt_rep ht] at hl
  unfold enterE
  rw [if_pos h.ent.right, if_pos hu, if_pos (by omega)]
theorem FullP.corr {t : Tr} {b : Bk} (h : FullP t 128 b) (ht : numsT t = true) (no : Int) (n1 : 1 ≤ no) (n2 : no ≤ 128) : corrE b no t.1.2.2.2.2.1 t.1.2.2.2.2.2 = 9 := by
  have hl := h.ent.len
  rw [cnt_rep ht] at hl
  have hm : asNo t no ∈ b.2.1 := by
    rw [h.trades, List.mem_map]
    exact ⟨(no - 1).toNat, List.mem_range.2 (by omega), by rw [show (((no - 1).toNat : Nat) : Int) + 1 = no by omega]⟩
  have ha : b.2.1.any (liveT no) = true := List.any_eq_true.2 ⟨_, hm, (liveT_iff _ _).2 ⟨rfl, rfl⟩⟩
  obtain ⟨t1, t2⟩ := the_live ha
  have hb : (theT b.2.1 no).1.2 = t.1.2 := by
    rw [h.trades, List.mem_map] at t1
    obtain ⟨j, _, e⟩ := t1
    rw [← h.trades] at e
    rw [← e]; rfl
  have hleg : legsT (theT b.2.1 no) true = legsT t true := legs_bare hb true
  have hc : cancelE b no = 0 := by
    refine cancelE_ok.2 ⟨h.ent.right, ha, addE_ok.2 ⟨h.ent.right, ?_, ?_, ?_⟩⟩
    · rw [hleg]; exact legs_ok ht true
    · rw [hleg]; exact legs_flatI t true
    · rw [hleg, h.ent.poss, fits_congr (ent_add _ _)]
      refine fits_small fun k => ?_
      obtain ⟨a1, a2⟩ := small_legs (List.replicate 128 t) k
      obtain ⟨b1, b2⟩ := qK_small ht true k
      rw [List.length_replicate] at a1 a2
      unfold sumK2
      simp only
      rw [qK_app, cK_app]
      unfold wm at *
      omega
  have hr := right_cancel hc
  unfold corrE
  rw [if_pos hc]
  unfold enterE
  rw [if_pos hr, if_pos]
  · rw [if_pos]
    rw [cancelB_ok hc]
    simp only
    rw [off_len]; omega
  · rw [nums_bare (u := t)]
    · exact ht
    · show (_, _, _, _, _) = _
      rw [hb]
theorem FullP.clear {t : Tr} {b : Bk} (h : FullP t 128 b) (ht : numsT t = true) : enterE (clearB b) t = 0 ∧ enterN (clearB b) t = 129 ∧ (enterB (clearB b) t).2.1.length = 1 := by
  have hn := h.ent.next
  rw [cnt_rep ht] at hn
  have hr := right_clear h.ent.right
  have he : enterE (clearB b) t = 0 := by
    refine enterE_ok.2 ⟨hr, ht, by simp [clearB], by show b.1 ≠ _; omega, addE_ok.2 ⟨hr, legs_ok ht false, legs_flatI t false, ?_⟩⟩
    show fits (addF b.2.2 _) = true
    rw [h.ent.poss, fits_congr (ent_add _ _)]
    refine fits_small fun k => ?_
    obtain ⟨a1, a2⟩ := small_legs (List.replicate 128 t) k
    obtain ⟨b1, b2⟩ := qK_small ht false k
    rw [List.length_replicate] at a1 a2
    unfold sumK2
    simp only
    rw [qK_app, cK_app]
    unfold wm at *
    omega
  refine ⟨he, ?_, ?_⟩
  · rw [enterN_ok he]; show b.1 + 1 = 129; omega
  · rw [enterB_ok he]; rfl
end Go.Proofs.Ytkbmiajgmnfpfaa.NumK
