/- Rows of elements of a fixed number of plain cells: what came in, what a call owns, what is appended. -/
import Derived.Test.YtafglljfgoeapaaRA
import Derived.Laws.AppendOwnNone
import Derived.Laws.Bits64b
import Derived.Deep.QuietTactic
import Derived.BigQuiet
import Derived.Deep.DeepCutAuto
import Derived.Deep.Light
namespace Go.Proofs.Ytafglljfgoeapaa.NumK
open Go.RowKit

/-- How an element lies in cells. -/
structure En (α : Type) where
  size : Nat
  cs : α → List Value
  len : ∀ a, (cs a).length = size
  one : ∀ a, ∀ v ∈ cs a, v.oneCell' = true
  pos : 0 < size

def En.sp {α : Type} (E : En α) : Sp α := ⟨E.size, fun _ cs a => cs = E.cs a, fun h => by rw [h]; exact E.len _, fun h _ => h⟩

/-- A row of them, wherever it lies. -/
def RowE {α : Type} (E : En α) (w : World) (A : Option Addr) (n : Nat) (l : List α) : Prop := Row E.sp w A n l

theorem Row.imp {α β : Type} {A : Sp α} {B : Sp β} (f : α → β) (hs : B.size = A.size) {w : World} (hf : ∀ cs a, A.rd w cs a → B.rd w cs (f a)) {ad : Option Addr} {n : Nat} {l : List α} (h : Row A w ad n l) : Row B w ad n (l.map f) := by
  refine ⟨by rw [List.length_map]; exact h.1, fun hn => ?_⟩
  obtain ⟨b, o, e, hb, hc⟩ := h.2 hn
  refine ⟨b, o, e, hb, fun j hj => ?_⟩
  obtain ⟨cs, h1, h2⟩ := hc j (by simpa using hj)
  exact ⟨cs, by rw [List.getElem_map]; exact hf _ _ h1, fun i hi => by rw [hs]; exact h2 i (by rw [← hs]; exact hi)⟩

theorem RowE.keep {α : Type} {E : En α} {w w' : World} {ad : Option Addr} {n : Nat} {l : List α} (h : RowE E w ad n l) (g : Grew w w') : RowE E w' ad n l := Row.keep h g
theorem RowE.nil {α : Type} (E : En α) (w : World) (ad : Option Addr) : RowE E w ad 0 [] := Row.nil _ w ad
theorem RowE.len {α : Type} {E : En α} {w : World} {ad : Option Addr} {n : Nat} {l : List α} (h : RowE E w ad n l) : l.length = n := h.1
theorem RowE.at {α : Type} {E : En α} {w : World} {ad : Option Addr} {n : Nat} {l : List α} (h : RowE E w ad n l) (hn : 0 < n) :
    ∃ b o, ad = some ⟨b, o, none⟩ ∧ b < w.heap.size ∧ ∀ j (hj : j < l.length), ∀ i, i < E.size → w.cell? ⟨b, o + j * E.size + i, none⟩ = (E.cs l[j])[i]? := by
  obtain ⟨b, o, e, hb, hc⟩ := h.2 hn
  refine ⟨b, o, e, hb, fun j hj i hi => ?_⟩
  obtain ⟨cs, h1, h2⟩ := hc j hj
  have h1 : cs = E.cs l[j] := h1
  subst h1
  exact h2 i hi
theorem RowE.take {α : Type} {E : En α} {w : World} {ad : Option Addr} {n k : Nat} {l : List α} (h : RowE E w ad n l) (hk : k ≤ n) : RowE E w ad k (l.take k) := Row.take h hk

/-- A block that the call has made, behind whatever only grows. -/
theorem own_cell {w w1 : World} {cs : Array Value} {t : TypeId} (h : Grew (w.alloc (.cells cs t)) w1) (i : Nat) : w1.cell? ⟨w.heap.size, i, none⟩ = cs[i]? :=
  (Below.cell h (p := ⟨w.heap.size, i, none⟩) (by simp)).trans (by rw [World.cell?_alloc_at _ _ _ _ (by simp)])
theorem own_lt {w w1 : World} {cs : Array Value} {t : TypeId} (h : Grew (w.alloc (.cells cs t)) w1) : w.heap.size < w1.heap.size := by have := h.size; simp at this; omega
theorem own_back {w w1 : World} {cs : Array Value} {t : TypeId} (h : Grew (w.alloc (.cells cs t)) w1) : Grew w w1 := grew_trans (grew_alloc _ _ _) h

/-! ### what a call owns -/
def OwnE {α : Type} (E : En α) (w : World) (base : Nat) (t : TypeId) (v : Value) (l : List α) : Prop := w.ownsRow base t E.size v l.length (l.flatMap E.cs)

theorem En.flat_len {α : Type} (E : En α) (l : List α) : (l.flatMap E.cs).length = l.length * E.size := by
  induction l with
  | nil => simp
  | cons x l ih => rw [List.flatMap_cons, List.length_append, ih, E.len, List.length_cons, Nat.succ_mul, Nat.add_comm]
theorem En.flat_at {α : Type} (E : En α) (l : List α) (j : Nat) (h : j < l.length) (i : Nat) (hi : i < E.size) : (l.flatMap E.cs)[j * E.size + i]? = (E.cs l[j])[i]? := by
  induction l generalizing j with
  | nil => simp at h
  | cons x l ih =>
    rw [List.flatMap_cons]
    cases j with
    | zero =>
      rw [Nat.zero_mul, Nat.zero_add, List.getElem?_append_left (by rw [E.len]; exact hi)]; rfl
    | succ j =>
      rw [List.getElem?_append_right (by rw [E.len, Nat.succ_mul]; omega), E.len, show (j + 1) * E.size + i - E.size = j * E.size + i by rw [Nat.succ_mul]; omega, ih j (by simpa using h)]
      rfl

theorem OwnE.nil {α : Type} (E : En α) (w : World) (base : Nat) (t : TypeId) : OwnE E w base t (.slice none 0 0) [] := World.ownsRow_nil _ _ _ _
theorem OwnE.empty {α : Type} (E : En α) (w : World) (base : Nat) (t : TypeId) (hb : base ≤ w.heap.size) : OwnE E (w.alloc (.cells #[] t)) base t (.slice (some ⟨w.heap.size, 0, none⟩) 0 0) [] :=
  ⟨by simp, .inr ⟨w.heap.size, 0, #[], rfl, hb, heap_alloc_new w _, Nat.le_refl _, by unfold maxLen; omega, by simp, by simp⟩⟩
theorem OwnE.form {α : Type} {E : En α} {w : World} {base : Nat} {t : TypeId} {v : Value} {l : List α} (h : OwnE E w base t v l) :
    ∃ A c, v = .slice A l.length c ∧ RowE E w A l.length l ∧ (A = none → c = 0) ∧ l.length ≤ c ∧ c ≤ maxLen := by
  obtain ⟨_, h⟩ := h
  rcases h with ⟨rfl, h0⟩ | ⟨g, cap, cur, rfl, _, hh, hc, hm, _, ht⟩
  · obtain rfl := List.eq_nil_of_length_eq_zero h0
    exact ⟨none, 0, rfl, RowE.nil E w none, fun _ => rfl, Nat.le_refl _, by unfold maxLen; omega⟩
  · refine ⟨some ⟨g, 0, none⟩, cap, rfl, ⟨rfl, fun hn => ⟨g, 0, rfl, ?_, fun j hj => ⟨E.cs l[j], rfl, fun i hi => ?_⟩⟩⟩, (fun h => by cases h), hc, hm⟩
    · rcases Nat.lt_or_ge g w.heap.size with h1 | h1
      · exact h1
      · rw [Array.getElem?_eq_none h1] at hh; cases hh
    · have hi : i < E.size := hi
      have e1 := E.flat_at l j hj i hi
      have hlt : j * E.size + i < l.length * E.size := by
        have : (j + 1) * E.size ≤ l.length * E.size := Nat.mul_le_mul_right _ hj
        rw [Nat.succ_mul] at this; omega
      rw [← ht, List.getElem?_take, if_pos hlt, Array.getElem?_toList] at e1
      show w.cell? ⟨g, 0 + j * E.size + i, none⟩ = _
      rw [cell_of_row w g _ cur t (0, 0) hh, Nat.zero_add, e1]
theorem OwnE.keep {α : Type} {E : En α} {w w' : World} {base : Nat} {t : TypeId} {v : Value} {l : List α} (h : OwnE E w base t v l) (g : Grew w w') : OwnE E w' base t v l := by
  obtain ⟨hl, h⟩ := h
  refine ⟨hl, ?_⟩
  rcases h with h | ⟨b, cap, cur, hv, hb, hh, r⟩
  · exact Or.inl h
  · refine Or.inr ⟨b, cap, cur, hv, hb, ?_, r⟩
    rw [g.block b ?_]
    · exact hh
    · rcases Nat.lt_or_ge b w.heap.size with h1 | h1
      · exact h1
      · rw [Array.getElem?_eq_none h1] at hh; cases hh
theorem OwnE.mono {α : Type} {E : En α} {w : World} {base base2 : Nat} {t : TypeId} {v : Value} {l : List α} (h : OwnE E w base t v l) (hb : base2 ≤ base) : OwnE E w base2 t v l := by
  obtain ⟨hl, h⟩ := h
  refine ⟨hl, ?_⟩
  rcases h with h | ⟨b, cap, cur, hv, h1, hh, r⟩
  · exact Or.inl h
  · exact Or.inr ⟨b, cap, cur, hv, by omega, hh, r⟩

section
variable {w : World} {ops : Array Oper} {rest : List Oper} {o : Oper} {a : Act} {Q : Exit → Act → World → Prop}
theorem wpList_append_E {α : Type} {E : En α} (hgd : o.guard = none) (s x : Operand) (T t : TypeId) (z : Value) (by' : Nat)
    (ho : o.op = .call { callee := .builtin .append, args := #[s, x], argTypes := #[T, T] })
    (hT : Try.prog.underlying T = some (.slice t)) (hi : (Try.prog.info? t).map (fun i => (i.zero, i.size, i.bytes)) = some (some z, E.size, by')) (hz : z.cells.size = E.size)
    (base : Nat) (v : Value) (l : List α) (hs : a.eval s = v) (hown : OwnE E w base t v l)
    (A : Option Addr) (m c : Nat) (zs : List α) (hx : a.eval x = .slice A m c) (hA : A = none → c = 0) (hR : RowE E w A m zs)
    (hm : l.length + m ≤ maxLen) (hlim : (l.length + m) * by' ≤ 140737488355328) (hbase : base ≤ w.heap.size)
    (h : ∀ v' w', OwnE E w' base t v' (l ++ zs) → Below base w w' → wpList Try.prog ops Q rest (a.put o.dst v') w') : wpList Try.prog ops Q (o :: rest) a w := by
  obtain ⟨i, hi, hz0, hz1, hz2⟩ := info_parts hi
  have hl := hR.len
  cases A with
  | none =>
    have hc := hA rfl
    subst hc
    have hm0 : m = 0 := by
      rcases Nat.eq_zero_or_pos m with h0 | h0
      · exact h0
      · obtain ⟨b, o, he, _⟩ := hR.2 h0
        cases he
    subst hm0
    have hz : zs = [] := List.eq_nil_of_length_eq_zero hl
    subst hz
    exact wpList_append_own_none hgd s x T ho base t i E.size hT hi v l.length _ hs hown hx (h v w (by simpa using hown) (Below.refl _ _))
  | some ad =>
    refine wpList_append_own w hgd s x T ho base t i z E.size by' hT hi hz0 hz1 hz2 hz E.pos v l.length _ hs hown ad m c (zs.flatMap E.cs) hx (by rw [E.flat_len, hl]) (fun j u hu => ?_) (fun u hu => ?_) hm hlim hbase (fun v' w' ho' hg _ => ?_)
    · have hj : j < zs.length * E.size := by
        rw [← E.flat_len]
        rcases Nat.lt_or_ge j (zs.flatMap E.cs).length with h1 | h1
        · exact h1
        · rw [List.getElem?_eq_none h1] at hu; cases hu
      have hq : j / E.size < zs.length := Nat.div_lt_of_lt_mul (by rw [Nat.mul_comm]; exact hj)
      have hdm : j / E.size * E.size + j % E.size = j := by rw [Nat.mul_comm]; exact Nat.div_add_mod j E.size
      have hmod : j % E.size < E.size := Nat.mod_lt _ E.pos
      obtain ⟨b, o2, he, hb, hc⟩ := hR.at (by rw [← hl]; exact Nat.lt_of_le_of_lt (Nat.zero_le _) hq)
      cases he
      have e1 := hc (j / E.size) hq (j % E.size) hmod
      rw [← E.flat_at zs _ hq _ hmod, hdm, hu] at e1
      rw [addr_add, ← e1, Nat.add_assoc, hdm]
    · obtain ⟨y, _, hy⟩ := List.mem_flatMap.1 hu
      exact E.one y u hy
    · refine h v' w' ?_ ((Below.refl base w).grown hg hbase fun k hk => (hown.lt k hk).1)
      show w'.ownsRow base t E.size v' (l ++ zs).length ((l ++ zs).flatMap E.cs)
      rw [List.length_append, hl, List.flatMap_append]
      exact ho'
end
end Go.Proofs.Ytafglljfgoeapaa.NumK
namespace Go.Proofs.Ytafglljfgoeapaa.NumK
open Go.RowKit

/-! ### numbers of 128 bits, by their halves -/
def hi64 (x : Int) : Int := x / 18446744073709551616
def lo64 (x : Int) : Int := x % 18446744073709551616
theorem w_eq (x : Int) : hi64 x * 18446744073709551616 + lo64 x = x := by unfold hi64 lo64; omega
theorem lo_bounds (x : Int) : 0 ≤ lo64 x ∧ lo64 x < 18446744073709551616 := by unfold lo64; omega
theorem w_unique (x h l : Int) (e : h * 18446744073709551616 + l = x) (h0 : 0 ≤ l) (h1 : l < 18446744073709551616) : hi64 x = h ∧ lo64 x = l := by unfold hi64 lo64; omega
def isWide (x : Int) : Bool := decide (-170141183460469231731687303715884105728 ≤ x) && decide (x < 170141183460469231731687303715884105728)
theorem isWide_iff (x : Int) : isWide x = true ↔ -170141183460469231731687303715884105728 ≤ x ∧ x < 170141183460469231731687303715884105728 := by simp [isWide]
theorem hi_bounds (x : Int) (h : isWide x = true) : -9223372036854775808 ≤ hi64 x ∧ hi64 x ≤ 9223372036854775807 := by
  rw [isWide_iff] at h; unfold hi64; omega

theorem wrap_u64_neg (n : Int) (h : -9223372036854775808 ≤ n) (c : n < 0) : IntKind.u64.wrap n = n + 18446744073709551616 := by rw [IntKind.wrap_u64]; omega
theorem ret_wv {x a b : Int} (h1 : a = hi64 x) (h2 : b = lo64 x) : Ending.returned (.agg #[.int .i64 a, .int .u64 b]) = .returned (.agg #[.int .i64 (hi64 (x)), .int .u64 (lo64 (x))]) := by rw [h1, h2]
theorem not_u64 (y : Int) (h0 : 0 ≤ y) (h1 : y < 18446744073709551616) : bits .xor .u64 IntKind.u64.max y = 18446744073709551615 - y := by
  obtain ⟨m, rfl⟩ := Int.eq_ofNat_of_zero_le h0
  have e1 : (BitVec.ofInt 64 IntKind.u64.max) = BitVec.allOnes 64 := by decide
  have e2 : (BitVec.ofInt 64 (m : Int)).toNat = m := by
    rw [BitVec.ofInt_natCast, BitVec.toNat_ofNat]; exact Nat.mod_eq_of_lt (by omega)
  show IntKind.u64.wrap ((BitVec.ofInt 64 IntKind.u64.max ^^^ BitVec.ofInt 64 (m : Int)).toNat : Int) = _
  rw [e1, BitVec.xor_comm, BitVec.xor_allOnes, BitVec.toNat_not, e2, IntKind.wrap_u64]
  omega
/-- The block that a call laid for its result stands as it was behind a callee that keeps what was there. -/
theorem own_cells {w w1 : World} {v0 v1 : Value} {t t2 : TypeId} {cs : Array Value} (h : Grew ((w.alloc (.cells #[v0, v1] t)).alloc (.cells cs t2)) w1) :
    w1.cell? ⟨w.heap.size, 0, none⟩ = some v0 ∧ w1.cell? ⟨w.heap.size, 1, none⟩ = some v1 ∧ w1.frozen? ⟨w.heap.size, 0, none⟩ = false ∧ w1.frozen? ⟨w.heap.size, 1, none⟩ = false ∧ w.heap.size < w1.heap.size := by
  have hs := h.size
  have hl : w.heap.size < ((w.alloc (.cells #[v0, v1] t)).alloc (.cells cs t2)).heap.size := by simp; omega
  exact ⟨(Below.cell h (p := ⟨w.heap.size, 0, none⟩) hl).trans (by simp), (Below.cell h (p := ⟨w.heap.size, 1, none⟩) hl).trans (by simp),
    (Below.frozen h (p := ⟨w.heap.size, 0, none⟩) hl).trans (by simp), (Below.frozen h (p := ⟨w.heap.size, 1, none⟩) hl).trans (by simp), by omega⟩
theorem own_grew {w w1 : World} {c1 c2 : Array Value} {t1 t2 : TypeId} (h : Grew ((w.alloc (.cells c1 t1)).alloc (.cells c2 t2)) w1) : Grew w w1 := grew_trans (grew_trans (grew_alloc _ _ _) (grew_alloc _ _ _)) h
theorem grew_set {w w1 : World} (h : Grew w w1) {p : Addr} (v : Value) (hp : w.heap.size ≤ p.block) : Grew w (w1.setCell p v) := Below.setCell h hp v
theorem times_arith (a b : Int) (ha : -9223372036854775808 ≤ a ∧ a ≤ 9223372036854775807) (hb : -9223372036854775808 ≤ b ∧ b ≤ 9223372036854775807) :
    a.natAbs * b.natAbs ≤ 85070591730234615865843651857942052864 ∧ ((a < 0 ↔ b < 0) → a * b = (a.natAbs * b.natAbs : Nat)) ∧ ((a < 0 ↔ ¬ b < 0) → a * b = -(a.natAbs * b.natAbs : Nat)) := by
  have hp : ((a * b).natAbs) = a.natAbs * b.natAbs := Int.natAbs_mul a b
  have hs : (a < 0 ↔ b < 0) → 0 ≤ a * b := fun h => by
    by_cases c : a < 0
    · exact Int.mul_nonneg_of_nonpos_of_nonpos (by omega) (by omega)
    · exact Int.mul_nonneg (by omega) (by omega)
  have hn : (a < 0 ↔ ¬ b < 0) → a * b ≤ 0 := fun h => by
    by_cases c : a < 0
    · exact Int.mul_nonpos_of_nonpos_of_nonneg (by omega) (by omega)
    · exact Int.mul_nonpos_of_nonneg_of_nonpos (by omega) (by omega)
  have hm : a.natAbs * b.natAbs ≤ 9223372036854775808 * 9223372036854775808 := Nat.mul_le_mul (by omega) (by omega)
  generalize a.natAbs * b.natAbs = P at *
  generalize a * b = p at *
  exact ⟨by omega, fun h => by have := hs h; omega, fun h => by have := hn h; omega⟩
def intV (x : Int) : Int := if isMoney x then x else 0
theorem intV_in {x : Int} (h : isMoney x = true) : intV x = x := by simp [intV, h]
theorem intV_out {x : Int} (h : isMoney x = false) : intV x = 0 := by simp [intV, h]
theorem ret_vb {a a' : Int} {b b' : Bool} (h1 : a = a') (h2 : b = b') : Ending.returned (.tuple #[.int .i64 a, .bool b]) = .returned (.tuple #[.int .i64 a', .bool b']) := by rw [h1, h2]
theorem grew_drew {w w1 : World} (h : Grew w w1) : Grew w w1.drew := ⟨h.os, h.tape, h.output, h.size, h.block⟩
theorem keep2 {w w1 w2 : World} {v0 v1 : Value} (g : Grew w1 w2) (h1 : w1.cell? ⟨w.heap.size, 0, none⟩ = some v0) (h2 : w1.cell? ⟨w.heap.size, 1, none⟩ = some v1) (h3 : w.heap.size < w1.heap.size) (h4 : Grew w w1) :
    w2.cell? ⟨w.heap.size, 0, none⟩ = some v0 ∧ w2.cell? ⟨w.heap.size, 1, none⟩ = some v1 ∧ w.heap.size < w2.heap.size ∧ Grew w w2 :=
  ⟨(grew_cell g (p := ⟨w.heap.size, 0, none⟩) h3).trans h1, (grew_cell g (p := ⟨w.heap.size, 1, none⟩) h3).trans h2, Nat.lt_of_lt_of_le h3 g.size, grew_trans h4 g⟩
theorem ret_wb {x a b : Int} {p q : Bool} (h1 : a = hi64 x) (h2 : b = lo64 x) (h3 : p = q) : Ending.returned (.tuple #[.agg #[.int .i64 a, .int .u64 b], .bool p]) = .returned (.tuple #[(.agg #[.int .i64 (hi64 (x)), .int .u64 (lo64 (x))]), .bool q]) := by rw [h1, h2, h3]
def wsV (x : Int) : Int := if isWide x then x else 0
end Go.Proofs.Ytafglljfgoeapaa.NumK
namespace Go.Proofs.Ytafglljfgoeapaa.NumK
open Go.RowKit

def sgn (n : Int) : Int := if n < 0 then -1 else 0
theorem sgn_neg {n : Int} (h : n < 0) : sgn n = -1 := by simp [sgn, h]
theorem sgn_pos {n : Int} (h : ¬ n < 0) : sgn n = 0 := by simp [sgn, h]

theorem sign_any (n : Int) (w : World) (h : -9223372036854775808 ≤ n ∧ n ≤ 9223372036854775807) :
    Calls Try.prog 68 #[.int .i64 n] w fun e w' => e = .returned (.int .i64 (sgn n)) ∧ w = w' := by
  go_enter Try.func68, Try.ntmps68
  go_wp2
  go_ret
  exact ⟨ret_i (by unfold sgn; split <;> omega), rfl⟩

theorem hi_of (n : Int) (h : -9223372036854775808 ≤ n ∧ n ≤ 9223372036854775807) : sgn n = hi64 n := by unfold sgn hi64; split <;> omega
theorem lo_of (n : Int) : IntKind.u64.wrap n = lo64 n := by rw [IntKind.wrap_u64]; rfl

theorem wof_any (n : Int) (w : World) (h : -9223372036854775808 ≤ n ∧ n ≤ 9223372036854775807) :
    Calls Try.prog 66 #[.int .i64 n] w fun e w' => e = .returned (.agg #[.int .i64 (hi64 n), .int .u64 (lo64 n)]) ∧ Grew w w' := by
  have C := fun w => sign_any n w h
  have e1 := lo_of n
  rw [hi_of n h] at C
  generalize hi64 n = hh at *
  generalize lo64 n = l at *
  go_enter Try.func66, Try.ntmps66
  go_wp2_with (go_at_call 68; ((with_reducible refine (C _).mono ?_); rintro e w' ⟨rfl, rfl⟩))
  exact bodyPost_ret (v := .agg #[.int .i64 hh, .int .u64 l]) (by simp [results, Try.results66, go_sem]) rfl ⟨rfl, grew_alloc _ _ _⟩
end Go.Proofs.Ytafglljfgoeapaa.NumK
namespace Go.Proofs.Ytafglljfgoeapaa.NumK
open Go.RowKit

set_option maxHeartbeats 400000 in
theorem right_any (A : Option Addr) (n c : Nat) (zs : List Int) (w : World) (hz : Ints w A n zs) (hn : n ≤ 9223372036854775807) :
    Calls Try.prog 45 #[.slice A n c] w fun e w' => e = .returned (.bool (zs.all isMoney)) ∧ w = w' := by
  have HZ : Hid (Ints w A n zs) := hz
  clear hz
  go_enter Try.func45, Try.ntmps45
  go_wp2
  go_loop [7] (fun i => ∃ k : Nat, k ≤ n ∧ i = .int .i64 k ∧ Hid ((zs.take k).all isMoney = true)) (fun i => n - (intOf i).toNat)
  case atStart => exact ⟨0, Nat.zero_le _, rfl, by simp [Hid]⟩
  case round =>
    obtain ⟨k, hk, rfl, HK⟩ := hrel
    by_cases hlt : k < n
    · obtain ⟨b, o, rfl, _, hc⟩ := HZ.out.2 (by omega)
      have hcell := hc k hlt
      have hl := HZ.out.1
      have hs := all_take_succ zs k (by omega)
      have HS : Hid ((zs.take (k + 1)).all isMoney = isMoney (zs.getD k 0)) := by rw [hs, HK.out]; simp [Hid]
      clear hs hc hl
      generalize hy : zs.getD k 0 = y at *
      have HY : Hid (zs.getD k 0 = y) := hy
      clear hy
      by_cases h1 : y < -4611686018427387904
      · go_wp2
        go_ret
        exact ⟨ret_b (all_false zs k (by have := HZ.out.1; omega) y HY.out (by omega)), rfl⟩
      · by_cases h2 : 4611686018427387904 < y
        · go_wp2
          go_ret
          exact ⟨ret_b (all_false zs k (by have := HZ.out.1; omega) y HY.out (by omega)), rfl⟩
        · go_wp2
          go_round
          case rel => exact ⟨k + 1, by omega, by go_num, HS.out.trans ((isMoney_iff y).2 ⟨by omega, by omega⟩)⟩
          case measure => simp [intOf]; omega
    · have : k = n := by omega
      subst this
      go_wp2
      go_ret
      have h1 := HK.out
      rw [List.take_of_length_le (by have := HZ.out.1; omega)] at h1
      exact ⟨ret_b h1.symm, rfl⟩

end Go.Proofs.Ytafglljfgoeapaa.NumK
