/- What the cells of an argument read as, by the shape of its type; the shape is opened from the law's hypothesis once, for all types. -/
import Derived.Test.YtahioajpmlochaaGreatRH1
import Derived.OpenShut
import Derived.ChangeArms
import Derived.Deep.Slices
import Derived.Laws.AppendOwnNone
import Derived.Deep.QuietTactic
import Derived.BigQuiet
import Derived.BigRegion
import Derived.Deep.CutBlock
import Derived.Deep.DeepCutAuto
namespace Go.Proofs.YtahioajpmlochaaGreat.NumK
open Go.RowKit

/-- How many cells, and what they read as in a world; what is read stays where the world only grows. -/
structure Sp (α : Type) where
  size : Nat
  rd : World → List Value → α → Prop
  len : ∀ {w : World} {cs : List Value} {a : α}, rd w cs a → cs.length = size
  keep : ∀ {w w' : World} {cs : List Value} {a : α}, rd w cs a → Grew w w' → rd w' cs a

def spInt (k : IntKind) : Sp Int := ⟨1, fun _ cs n => cs = [.int k n] ∧ (Lit.int k n).wf = true, fun h => by rw [h.1]; rfl, fun h _ => h⟩
def spBool : Sp Bool := ⟨1, fun _ cs b => cs = [.bool b], fun h => by rw [h]; rfl, fun h _ => h⟩
def spStr : Sp ByteArray := ⟨1, fun _ cs s => cs = [.string s] ∧ s.size ≤ maxLen, fun h => by rw [h.1]; rfl, fun h _ => h⟩
def spPair {α β : Type} (A : Sp α) (B : Sp β) : Sp (α × β) :=
  ⟨A.size + B.size, fun w cs p => ∃ c1 c2, cs = c1 ++ c2 ∧ A.rd w c1 p.1 ∧ B.rd w c2 p.2,
    fun ⟨_, _, e, h1, h2⟩ => by rw [e, List.length_append, A.len h1, B.len h2],
    fun ⟨c1, c2, e, h1, h2⟩ g => ⟨c1, c2, e, A.keep h1 g, B.keep h2 g⟩⟩

theorem addr_add (b o k : Nat) : (⟨b, o, none⟩ : Addr).add k = ⟨b, o + k, none⟩ := by unfold Addr.add; split <;> simp_all

/-- A slice's elements, wherever they lie. -/
def Row {α : Type} (A : Sp α) (w : World) (ad : Option Addr) (n : Nat) (l : List α) : Prop :=
  l.length = n ∧ (0 < n → ∃ b o, ad = some ⟨b, o, none⟩ ∧ b < w.heap.size ∧ ∀ j (h : j < l.length), ∃ cs, A.rd w cs l[j] ∧ ∀ i, i < A.size → w.cell? ⟨b, o + j * A.size + i, none⟩ = cs[i]?)
theorem Row.keep {α : Type} {A : Sp α} {w w' : World} {ad : Option Addr} {n : Nat} {l : List α} (h : Row A w ad n l) (g : Grew w w') : Row A w' ad n l :=
  ⟨h.1, fun hn => by
    obtain ⟨b, o, e, hb, hc⟩ := h.2 hn
    refine ⟨b, o, e, Nat.lt_of_lt_of_le hb g.size, fun j hj => ?_⟩
    obtain ⟨cs, h1, h2⟩ := hc j hj
    exact ⟨cs, A.keep h1 g, fun i hi => (grew_cell g (p := ⟨b, o + j * A.size + i, none⟩) hb).trans (h2 i hi)⟩⟩
theorem Row.nil {α : Type} (A : Sp α) (w : World) (ad : Option Addr) : Row A w ad 0 [] := ⟨rfl, fun h => absurd h (by omega)⟩
theorem Row.take {α : Type} {A : Sp α} {w : World} {ad : Option Addr} {n k : Nat} {l : List α} (h : Row A w ad n l) (hk : k ≤ n) : Row A w ad k (l.take k) := by
  refine ⟨by have := h.1; simp; omega, fun hp => ?_⟩
  obtain ⟨b, o, e, hb, hc⟩ := h.2 (by omega)
  refine ⟨b, o, e, hb, fun j hj => ?_⟩
  obtain ⟨cs, h1, h2⟩ := hc j (by rw [List.length_take] at hj; omega)
  exact ⟨cs, by rw [List.getElem_take]; exact h1, h2⟩
theorem Row.drop {α : Type} {A : Sp α} {w : World} {ad : Addr} {n k : Nat} {l : List α} (h : Row A w (some ad) n l) (hk : k ≤ n) : Row A w (some (ad.add (k * A.size))) (n - k) (l.drop k) := by
  refine ⟨by have := h.1; simp; omega, fun hp => ?_⟩
  obtain ⟨b, o, e, hb, hc⟩ := h.2 (by omega)
  cases e
  refine ⟨b, o + k * A.size, by rw [addr_add], hb, fun j hj => ?_⟩
  obtain ⟨cs, h1, h2⟩ := hc (k + j) (by rw [List.length_drop] at hj; omega)
  refine ⟨cs, by rw [List.getElem_drop]; exact h1, fun i hi => ?_⟩
  rw [← h2 i hi, Nat.add_mul, Nat.add_assoc o]

def spSlice {α : Type} (A : Sp α) : Sp (List α) :=
  ⟨1, fun w cs l => ∃ ad n c, cs = [.slice ad n c] ∧ Row A w ad n l ∧ (ad = none → c = 0) ∧ n ≤ c ∧ c ≤ maxLen, fun ⟨_, _, _, e, _⟩ => by rw [e]; rfl,
    fun ⟨ad, n, c, e, h, r⟩ g => ⟨ad, n, c, e, h.keep g, r⟩⟩
def spArr {α : Type} (n : Nat) (A : Sp α) : Sp (List α) :=
  ⟨n * A.size, fun w cs l => l.length = n ∧ cs.length = n * A.size ∧ ∀ j (h : j < l.length), A.rd w ((cs.drop (j * A.size)).take A.size) l[j], fun h => h.2.1,
    fun h g => ⟨h.1, h.2.1, fun j hj => A.keep (h.2.2 j hj) g⟩⟩
/-- The same cells, read through a function. -/
def spMap {α β : Type} (f : α → β) (A : Sp α) : Sp β :=
  ⟨A.size, fun w cs b => ∃ a, A.rd w cs a ∧ f a = b, fun ⟨_, h, _⟩ => A.len h, fun ⟨a, h, e⟩ g => ⟨a, A.keep h g, e⟩⟩

/-- What came in at type t reads as A says. -/
def Opens (P : Program) (t : TypeId) {α : Type} (A : Sp α) : Prop :=
  P.cellsOf t = A.size ∧ ∀ {H : Type} (enc : TypeId × Value → H) (w : World) (held : Bool) (fuel : Nat) (cs : List Value) (x : DataW H × List MemPlace), DataW.trod enc P w 0 (fun _ => true) held fuel t cs = some x → ∃ a, A.rd w cs a

theorem opens_int {P : Program} {t : TypeId} {k : IntKind} (ht : P.underlying t = some (.int k)) (hc : P.cellsOf t = 1) : Opens P t (spInt k) :=
  ⟨hc, fun _ _ _ _ _ _ h => by obtain ⟨n, e, _, w⟩ := DataW.trod_int ht h; exact ⟨n, e, w⟩⟩
theorem opens_bool {P : Program} {t : TypeId} (ht : P.underlying t = some .bool) (hc : P.cellsOf t = 1) : Opens P t spBool :=
  ⟨hc, fun _ _ _ _ _ _ h => by obtain ⟨n, e, _⟩ := DataW.trod_bool ht h; exact ⟨n, e⟩⟩
theorem opens_map {P : Program} {t : TypeId} {α β : Type} {A : Sp α} (f : α → β) (h : Opens P t A) : Opens P t (spMap f A) :=
  ⟨h.1, fun enc w held fuel cs x hx => by obtain ⟨a, ha⟩ := h.2 enc w held fuel cs x hx; exact ⟨f a, a, ha, rfl⟩⟩

theorem opens_slice {P : Program} {t e : TypeId} {α : Type} [Inhabited α] {A : Sp α} (ht : P.underlying t = some (.slice e)) (hc : P.cellsOf t = 1) (he : Opens P e A) (hz : A.size ≠ 0) : Opens P t (spSlice A) := by
  refine ⟨hc, fun enc w held fuel cs x h => ?_⟩
  rcases Go.Deep.open_slice ht h with ⟨rfl, _⟩ | ⟨a, len, cap, m, n, D, Pl, rfl, _, hl, hm, hmm, _, hx⟩
  · exact ⟨[], none, 0, 0, rfl, Row.nil A w none, fun _ => rfl, Nat.le_refl _, by unfold maxLen; omega⟩
  · simp only [if_true] at hmm
    subst hmm
    have each : ∀ i, i < m → ∃ y, ∃ cs, A.rd w cs y ∧ ∀ k, k < A.size → w.cell? ((a.add (i * A.size)).add k) = cs[k]? := by
      intro i hi
      obtain ⟨cs', h1, h2⟩ := hx i hi
      rw [he.1] at h1
      obtain ⟨_, hlen, hcell⟩ := World.cells?_some h1
      obtain ⟨y, hy⟩ := he.2 enc w held n cs' _ h2
      exact ⟨y, cs', hy, hcell⟩
    obtain ⟨f, hf⟩ := Go.Deep.choose_lt each
    refine ⟨(List.range len).map f, some a, len, m, rfl, ⟨by simp, fun h0 => ?_⟩, fun h => by (cases h), hl, hm⟩
    obtain ⟨b, o, spot⟩ := a
    obtain ⟨cs0, h1, h2⟩ := hf 0 (by omega)
    have h3 := h2 0 (by omega)
    have hl0 := A.len h1
    have h4 : w.cell? ⟨b, o, spot⟩ = some cs0[0] := by
      rw [List.getElem?_eq_getElem (by omega)] at h3
      simpa [Addr.add] using h3
    have hspot : spot = none := by simpa using World.cell?_spot h4
    subst hspot
    refine ⟨b, o, rfl, by simpa using World.block_lt_of_cell? w _ h4, fun j hj => ?_⟩
    obtain ⟨cs', g1, g2⟩ := hf j (by simp at hj; omega)
    refine ⟨cs', by simpa using g1, fun i hi => ?_⟩
    rw [← g2 i hi, addr_add, addr_add]

/-- A struct's fields, in their order, from a cell on. -/
inductive Fs (P : Program) : List Field → Nat → {α : Type} → Sp α → Prop
  | last {α : Type} {A : Sp α} (f : Field) (off : Nat) (ho : f.offset = off) (h : Opens P f.type A) : Fs P [f] off A
  | cons {α β : Type} {A : Sp α} {B : Sp β} (f : Field) (fs : List Field) (off : Nat) (ho : f.offset = off) (h : Opens P f.type A) (r : Fs P fs (off + A.size) B) : Fs P (f :: fs) off (spPair A B)

theorem Fs.rd {P : Program} {H : Type} {enc : TypeId × Value → H} {w : World} {held : Bool} {n : Nat} {cs : List Value} {fs : List Field} {off : Nat} {α : Type} {A : Sp α} (h : Fs P fs off A)
    (hx : ∀ f ∈ fs, ∃ y, DataW.trod enc P w 0 (fun _ => true) held n f.type ((cs.drop f.offset).take (P.cellsOf f.type)) = some y) : ∃ a, A.rd w ((cs.drop off).take A.size) a := by
  induction h with
  | last f off ho h =>
    obtain ⟨y, hy⟩ := hx f (by simp)
    rw [ho, h.1] at hy
    exact h.2 enc w held n _ y hy
  | @cons α β A B f fs off ho h r ih =>
    obtain ⟨y, hy⟩ := hx f (by simp)
    rw [ho, h.1] at hy
    obtain ⟨a, ha⟩ := h.2 enc w held n _ y hy
    obtain ⟨b, hb⟩ := ih fun g hg => hx g (by simp [hg])
    refine ⟨(a, b), _, _, ?_, ha, hb⟩
    show (cs.drop off).take (A.size + B.size) = _
    rw [List.take_add, List.drop_drop]

theorem opens_struct {P : Program} {t : TypeId} {fs : Array Field} {α : Type} {A : Sp α} (ht : P.underlying t = some (.struct fs)) (hc : P.cellsOf t = A.size) (h : Fs P fs.toList 0 A) : Opens P t A := by
  refine ⟨hc, fun enc w held fuel cs x hx => ?_⟩
  obtain ⟨xs, n, _, _, hl, hlen, hf⟩ := DataW.trod_struct ht hx
  obtain ⟨a, ha⟩ := Fs.rd (enc := enc) (w := w) (held := held) (n := n) (cs := cs) h (fun f hfm => by
    obtain ⟨i, hi, rfl⟩ := List.getElem_of_mem hfm
    have e := hf i fs.toList[i] (by simp)
    rw [e, List.getElem?_eq_getElem (by simp at hi; omega)]
    exact ⟨_, rfl⟩)
  rw [List.drop_zero, List.take_of_length_le (by omega)] at ha
  exact ⟨a, ha⟩

/-- An argument's own value, opened. -/
theorem opens_arg {P : Program} {t : TypeId} {α : Type} {A : Sp α} (h : Opens P t A) {H : Type} {enc : TypeId × Value → H} {w : World} {held : Bool} {v : Value} {d : DataW H} {p : List MemPlace}
    (hd : DataW.Trod enc P w 0 (fun _ => true) held t v d p) : ∃ a, A.rd w v.cells.toList a := by
  obtain ⟨fuel, hf⟩ := hd
  exact h.2 enc w held fuel _ _ hf

theorem arg_slice {P : Program} {t e : TypeId} {α : Type} {A : Sp α} (ht : P.underlying t = some (.slice e)) (h : Opens P t (spSlice A)) {H : Type} {enc : TypeId × Value → H} {w : World} {held : Bool} {v : Value} {d : DataW H} {p : List MemPlace} {r : Reach} {b0 : Nat}
    (hv : Value.okWide P w r b0 t v) (hd : DataW.Trod enc P w 0 (fun _ => true) held t v d p) : ∃ ad n c l, v = .slice ad n c ∧ Row A w ad n l ∧ (ad = none → c = 0) ∧ n ≤ c ∧ c ≤ 9223372036854775807 := by
  obtain ⟨ad, n, c, rfl⟩ := Go.WideShapes.okWide_slice ht hv
  obtain ⟨l, ad', n', c', e, hr, h0, h1, h2⟩ := opens_arg h hd
  simp [Value.cells] at e
  obtain ⟨rfl, rfl, rfl⟩ := e
  exact ⟨ad, n, c, l, rfl, hr, h0, h1, by unfold maxLen at h2; omega⟩
theorem arg_struct {P : Program} {t : TypeId} {fs : Array Field} {α : Type} {A : Sp α} (ht : P.underlying t = some (.struct fs)) (h : Opens P t A) {H : Type} {enc : TypeId × Value → H} {w : World} {held : Bool} {v : Value} {d : DataW H} {p : List MemPlace} {r : Reach} {b0 : Nat}
    (hv : Value.okWide P w r b0 t v) (hd : DataW.Trod enc P w 0 (fun _ => true) held t v d p) : ∃ cs a, v = .agg cs ∧ A.rd w cs.toList a := by
  obtain ⟨cs, rfl, _⟩ := Go.WideShapes.okWide_struct ht hv
  obtain ⟨a, ha⟩ := opens_arg h hd
  exact ⟨cs, a, rfl, by simpa [Value.cells] using ha⟩
end Go.Proofs.YtahioajpmlochaaGreat.NumK
namespace Go.Proofs.YtahioajpmlochaaGreat.NumK
open Go.RowKit

/-- How an element lies in cells. -/
structure En (α : Type) where
  size : Nat
  cs : α → List Value
  len : ∀ a, (cs a).length = size
  one : ∀ a, ∀ v ∈ cs a, v.oneCell' = true
  pos : 0 < size

def En.sp {α : Type} (E : En α) : Sp α := ⟨E.size, fun _ cs a => cs = E.cs a, fun h => by rw [h]; exact E.len _, fun h _ => h⟩

/-- A row of them, wherever it lies. -/
def RowE {α : Type} (E : En α) (w : World) (A : Option Addr) (n : Nat) (l : List α) : Prop := Row E.sp w A n l

theorem Row.imp {α β : Type} {A : Sp α} {B : Sp β} (f : α → β) (hs : B.size = A.size) {w : World} (hf : ∀ cs a, A.rd w cs a → B.rd w cs (f a)) {ad : Option Addr} {n : Nat} {l : List α} (h : Row A w ad n l) : Row B w ad n (l.map f) := by
  refine ⟨by rw [List.length_map]; exact h.1, fun hn => ?_⟩
  obtain ⟨b, o, e, hb, hc⟩ := h.2 hn
  refine ⟨b, o, e, hb, fun j hj => ?_⟩
  obtain ⟨cs, h1, h2⟩ := hc j (by simpa using hj)
  exact ⟨cs, by rw [List.getElem_map]; exact hf _ _ h1, fun i hi => by rw [hs]; exact h2 i (by rw [← hs]; exact hi)⟩

theorem RowE.keep {α : Type} {E : En α} {w w' : World} {ad : Option Addr} {n : Nat} {l : List α} (h : RowE E w ad n l) (g : Grew w w') : RowE E w' ad n l := Row.keep h g
theorem RowE.nil {α : Type} (E : En α) (w : World) (ad : Option Addr) : RowE E w ad 0 [] := Row.nil _ w ad
theorem RowE.len {α : Type} {E : En α} {w : World} {ad : Option Addr} {n : Nat} {l : List α} (h : RowE E w ad n l) : l.length = n := h.1
theorem RowE.at {α : Type} {E : En α} {w : World} {ad : Option Addr} {n : Nat} {l : List α} (h : RowE E w ad n l) (hn : 0 < n) :
    ∃ b o, ad = some ⟨b, o, none⟩ ∧ b < w.heap.size ∧ ∀ j (hj : j < l.length), ∀ i, i < E.size → w.cell? ⟨b, o + j * E.size + i, none⟩ = (E.cs l[j])[i]? := by
  obtain ⟨b, o, e, hb, hc⟩ := h.2 hn
  refine ⟨b, o, e, hb, fun j hj i hi => ?_⟩
  obtain ⟨cs, h1, h2⟩ := hc j hj
  have h1 : cs = E.cs l[j] := h1
  subst h1
  exact h2 i hi
theorem RowE.take {α : Type} {E : En α} {w : World} {ad : Option Addr} {n k : Nat} {l : List α} (h : RowE E w ad n l) (hk : k ≤ n) : RowE E w ad k (l.take k) := Row.take h hk

theorem own_back {w w1 : World} {cs : Array Value} {t : TypeId} (h : Grew (w.alloc (.cells cs t)) w1) : Grew w w1 := grew_trans (grew_alloc _ _ _) h

/-! ### what a call owns -/
def OwnE {α : Type} (E : En α) (w : World) (base : Nat) (t : TypeId) (v : Value) (l : List α) : Prop := w.ownsRow base t E.size v l.length (l.flatMap E.cs)

theorem En.flat_len {α : Type} (E : En α) (l : List α) : (l.flatMap E.cs).length = l.length * E.size := by
  induction l with
  | nil => simp
  | cons x l ih => rw [List.flatMap_cons, List.length_append, ih, E.len, List.length_cons, Nat.succ_mul, Nat.add_comm]
theorem En.flat_at {α : Type} (E : En α) (l : List α) (j : Nat) (h : j < l.length) (i : Nat) (hi : i < E.size) : (l.flatMap E.cs)[j * E.size + i]? = (E.cs l[j])[i]? := by
  induction l generalizing j with
  | nil => simp at h
  | cons x l ih =>
    rw [List.flatMap_cons]
    cases j with
    | zero =>
      rw [Nat.zero_mul, Nat.zero_add, List.getElem?_append_left (by rw [E.len]; exact hi)]; rfl
    | succ j =>
      rw [List.getElem?_append_right (by rw [E.len, Nat.succ_mul]; omega), E.len, show (j + 1) * E.size + i - E.size = j * E.size + i by rw [Nat.succ_mul]; omega, ih j (by simpa using h)]
      rfl

theorem OwnE.nil {α : Type} (E : En α) (w : World) (base : Nat) (t : TypeId) : OwnE E w base t (.slice none 0 0) [] := World.ownsRow_nil _ _ _ _
theorem OwnE.empty {α : Type} (E : En α) (w : World) (base : Nat) (t : TypeId) (hb : base ≤ w.heap.size) : OwnE E (w.alloc (.cells #[] t)) base t (.slice (some ⟨w.heap.size, 0, none⟩) 0 0) [] :=
  ⟨by simp, .inr ⟨w.heap.size, 0, #[], rfl, hb, heap_alloc_new w _, Nat.le_refl _, by unfold maxLen; omega, by simp, by simp⟩⟩
theorem OwnE.form {α : Type} {E : En α} {w : World} {base : Nat} {t : TypeId} {v : Value} {l : List α} (h : OwnE E w base t v l) :
    ∃ A c, v = .slice A l.length c ∧ RowE E w A l.length l ∧ (A = none → c = 0) ∧ l.length ≤ c ∧ c ≤ maxLen := by
  obtain ⟨_, h⟩ := h
  rcases h with ⟨rfl, h0⟩ | ⟨g, cap, cur, rfl, _, hh, hc, hm, _, ht⟩
  · obtain rfl := List.eq_nil_of_length_eq_zero h0
    exact ⟨none, 0, rfl, RowE.nil E w none, fun _ => rfl, Nat.le_refl _, by unfold maxLen; omega⟩
  · refine ⟨some ⟨g, 0, none⟩, cap, rfl, ⟨rfl, fun hn => ⟨g, 0, rfl, ?_, fun j hj => ⟨E.cs l[j], rfl, fun i hi => ?_⟩⟩⟩, (fun h => by cases h), hc, hm⟩
    · rcases Nat.lt_or_ge g w.heap.size with h1 | h1
      · exact h1
      · rw [Array.getElem?_eq_none h1] at hh; cases hh
    · have hi : i < E.size := hi
      have e1 := E.flat_at l j hj i hi
      have hlt : j * E.size + i < l.length * E.size := by
        have : (j + 1) * E.size ≤ l.length * E.size := Nat.mul_le_mul_right _ hj
        rw [Nat.succ_mul] at this; omega
      rw [← ht, List.getElem?_take, if_pos hlt, Array.getElem?_toList] at e1
      show w.cell? ⟨g, 0 + j * E.size + i, none⟩ = _
      rw [cell_of_row w g _ cur t (0, 0) hh, Nat.zero_add, e1]
theorem OwnE.keep {α : Type} {E : En α} {w w' : World} {base : Nat} {t : TypeId} {v : Value} {l : List α} (h : OwnE E w base t v l) (g : Grew w w') : OwnE E w' base t v l := by
  obtain ⟨hl, h⟩ := h
  refine ⟨hl, ?_⟩
  rcases h with h | ⟨b, cap, cur, hv, hb, hh, r⟩
  · exact Or.inl h
  · refine Or.inr ⟨b, cap, cur, hv, hb, ?_, r⟩
    rw [g.block b ?_]
    · exact hh
    · rcases Nat.lt_or_ge b w.heap.size with h1 | h1
      · exact h1
      · rw [Array.getElem?_eq_none h1] at hh; cases hh
theorem OwnE.mono {α : Type} {E : En α} {w : World} {base base2 : Nat} {t : TypeId} {v : Value} {l : List α} (h : OwnE E w base t v l) (hb : base2 ≤ base) : OwnE E w base2 t v l := by
  obtain ⟨hl, h⟩ := h
  refine ⟨hl, ?_⟩
  rcases h with h | ⟨b, cap, cur, hv, h1, hh, r⟩
  · exact Or.inl h
  · exact Or.inr ⟨b, cap, cur, hv, by omega, hh, r⟩

section
variable {w : World} {ops : Array Oper} {rest : List Oper} {o : Oper} {a : Act} {Q : Exit → Act → World → Prop}
theorem wpList_append_E {α : Type} {E : En α} (hgd : o.guard = none) (s x : Operand) (T t : TypeId) (z : Value) (by' : Nat)
    (ho : o.op = .call { callee := .builtin .append, args := #[s, x], argTypes := #[T, T] })
    (hT : Tryz.prog.underlying T = some (.slice t)) (hi : (Tryz.prog.info? t).map (fun i => (i.zero, i.size, i.bytes)) = some (some z, E.size, by')) (hz : z.cells.size = E.size)
    (base : Nat) (v : Value) (l : List α) (hs : a.eval s = v) (hown : OwnE E w base t v l)
    (A : Option Addr) (m c : Nat) (zs : List α) (hx : a.eval x = .slice A m c) (hA : A = none → c = 0) (hR : RowE E w A m zs)
    (hm : l.length + m ≤ maxLen) (hlim : (l.length + m) * by' ≤ 140737488355328) (hbase : base ≤ w.heap.size)
    (h : ∀ v' w', OwnE E w' base t v' (l ++ zs) → Below base w w' → wpList Tryz.prog ops Q rest (a.put o.dst v') w') : wpList Tryz.prog ops Q (o :: rest) a w := by
  obtain ⟨i, hi, hz0, hz1, hz2⟩ := info_parts hi
  have hl := hR.len
  cases A with
  | none =>
    have hc := hA rfl
    subst hc
    have hm0 : m = 0 := by
      rcases Nat.eq_zero_or_pos m with h0 | h0
      · exact h0
      · obtain ⟨b, o, he, _⟩ := hR.2 h0
        cases he
    subst hm0
    have hz : zs = [] := List.eq_nil_of_length_eq_zero hl
    subst hz
    exact wpList_append_own_none hgd s x T ho base t i E.size hT hi v l.length _ hs hown hx (h v w (by simpa using hown) (Below.refl _ _))
  | some ad =>
    refine wpList_append_own w hgd s x T ho base t i z E.size by' hT hi hz0 hz1 hz2 hz E.pos v l.length _ hs hown ad m c (zs.flatMap E.cs) hx (by rw [E.flat_len, hl]) (fun j u hu => ?_) (fun u hu => ?_) hm hlim hbase (fun v' w' ho' hg _ => ?_)
    · have hj : j < zs.length * E.size := by
        rw [← E.flat_len]
        rcases Nat.lt_or_ge j (zs.flatMap E.cs).length with h1 | h1
        · exact h1
        · rw [List.getElem?_eq_none h1] at hu; cases hu
      have hq : j / E.size < zs.length := Nat.div_lt_of_lt_mul (by rw [Nat.mul_comm]; exact hj)
      have hdm : j / E.size * E.size + j % E.size = j := by rw [Nat.mul_comm]; exact Nat.div_add_mod j E.size
      have hmod : j % E.size < E.size := Nat.mod_lt _ E.pos
      obtain ⟨b, o2, he, hb, hc⟩ := hR.at (by rw [← hl]; exact Nat.lt_of_le_of_lt (Nat.zero_le _) hq)
      cases he
      have e1 := hc (j / E.size) hq (j % E.size) hmod
      rw [← E.flat_at zs _ hq _ hmod, hdm, hu] at e1
      rw [addr_add, ← e1, Nat.add_assoc, hdm]
    · obtain ⟨y, _, hy⟩ := List.mem_flatMap.1 hu
      exact E.one y u hy
    · refine h v' w' ?_ ((Below.refl base w).grown hg hbase fun k hk => (hown.lt k hk).1)
      show w'.ownsRow base t E.size v' (l ++ zs).length ((l ++ zs).flatMap E.cs)
      rw [List.length_append, hl, List.flatMap_append]
      exact ho'
end
end Go.Proofs.YtahioajpmlochaaGreat.NumK
namespace Go.Proofs.YtahioajpmlochaaGreat.NumK
open Go.RowKit
set_option linter.unusedVariables false

structure OwnC (w : World) (b : Nat) (cs : List Value) : Prop where
  lt : b < w.heap.size
  c : ∀ i, i < cs.length → w.cell? ⟨b, i, none⟩ = cs[i]?
  f : ∀ i, i < cs.length → w.frozen? ⟨b, i, none⟩ = false

theorem OwnC.new (w : World) (cs : List Value) (t : TypeId) (N : Nat) (hN : N = w.heap.size) : OwnC (w.alloc (.cells cs.toArray t)) N cs := by
  subst hN
  refine ⟨by simp, fun i hi => ?_, fun i hi => ?_⟩
  · rw [World.cell?_alloc_at _ _ _ _ (by simp)]; simp
  · go_simp
theorem OwnC.keep {w w' : World} {b : Nat} {cs : List Value} (h : OwnC w b cs) (g : Grew w w') : OwnC w' b cs :=
  ⟨Nat.lt_of_lt_of_le h.lt g.size, fun i hi => (grew_cell g (p := ⟨b, i, none⟩) h.lt).trans (h.c i hi), fun i hi => (Below.frozen g (p := ⟨b, i, none⟩) h.lt).trans (h.f i hi)⟩
theorem OwnC.below {w w' : World} {b B : Nat} {cs : List Value} (h : OwnC w b cs) (g : Below B w w') (hb : b < B) : OwnC w' b cs :=
  ⟨Nat.lt_of_lt_of_le h.lt g.size, fun i hi => (Below.cell g (p := ⟨b, i, none⟩) hb).trans (h.c i hi), fun i hi => (Below.frozen g (p := ⟨b, i, none⟩) hb).trans (h.f i hi)⟩
theorem OwnC.set {w : World} {b : Nat} {cs : List Value} (h : OwnC w b cs) (i : Nat) (v : Value) (hi : i < cs.length) : OwnC (w.setCell ⟨b, i, none⟩ v) b (cs.set i v) := by
  refine ⟨by simp [World.setCell]; exact h.lt, fun j hj => ?_, fun j hj => ?_⟩
  · rw [List.length_set] at hj
    by_cases hc : i = j
    · subst hc
      rw [World.cell?_setCell_same _ _ _ ((h.c i hi).trans (List.getElem?_eq_getElem hi)), List.getElem?_set_self hi]
    · rw [World.cell?_setCell_other _ _ _ _ (by intro e; simp only [Addr.mk.injEq] at e; omega), h.c j hj, List.getElem?_set_ne hc]
  · rw [List.length_set] at hj
    rw [World.frozen?_setCell]; exact h.f j hj
theorem OwnC.other {w : World} {b : Nat} {cs : List Value} (h : OwnC w b cs) (p : Addr) (v : Value) (hp : p.block ≠ b) : OwnC (w.setCell p v) b cs :=
  ⟨by simp [World.setCell]; exact h.lt, fun i hi => (World.cell?_setCell_other _ _ _ _ (by intro e; apply hp; rw [e])).trans (h.c i hi), fun i hi => by rw [World.frozen?_setCell]; exact h.f i hi⟩
theorem OwnC.drew {w : World} {b : Nat} {cs : List Value} (h : OwnC w b cs) : OwnC w.drew b cs := h.keep (Below.drew (grew_refl w))

/-- Cells of a call's own block, written one behind the other. -/
def putC (w : World) (b : Nat) : Nat → List Value → World
  | _, [] => w
  | o, v :: vs => putC (w.setCell ⟨b, o, none⟩ v) b (o + 1) vs
theorem grew_put {w : World} (b : Nat) (hb : w.heap.size ≤ b) : ∀ (vs : List Value) (o : Nat) (w1 : World), Grew w w1 → Grew w (putC w1 b o vs)
  | [], _, _, h => h
  | v :: vs, o, w1, h => grew_put b hb vs (o + 1) _ (grew_set h v hb)
theorem OwnC.put {b : Nat} : ∀ (vs : List Value) (o : Nat) (w : World) (cs : List Value), OwnC w b cs → o + vs.length ≤ cs.length → OwnC (putC w b o vs) b (cs.take o ++ vs ++ cs.drop (o + vs.length))
  | [], o, w, cs, h, _ => by rw [List.append_nil, List.length_nil, Nat.add_zero, List.take_append_drop]; exact h
  | v :: vs, o, w, cs, h, hl => by
    rw [List.length_cons] at hl
    have h2 := OwnC.put vs (o + 1) _ _ (h.set o v (by omega)) (by rw [List.length_set]; omega)
    have e : (cs.set o v).take (o + 1) ++ vs ++ (cs.set o v).drop (o + 1 + vs.length) = cs.take o ++ (v :: vs) ++ cs.drop (o + (v :: vs).length) := by
      rw [List.take_succ_eq_append_getElem (by rw [List.length_set]; omega), List.getElem_set_self, List.take_set_of_le (Nat.le_refl _), List.drop_set_of_lt (by omega), List.length_cons, show o + 1 + vs.length = o + (vs.length + 1) by omega]
      simp
    rw [← e]; exact h2
/-- All of it. -/
theorem OwnC.all {w : World} {b : Nat} {cs : List Value} (h : OwnC w b cs) (vs : List Value) (hl : vs.length = cs.length) : OwnC (putC w b 0 vs) b vs := by
  have h2 := OwnC.put vs 0 w cs h (by omega)
  rw [List.take_zero, List.nil_append, List.drop_eq_nil_of_le (by omega), List.append_nil] at h2
  exact h2
theorem OwnC.at {w : World} {b : Nat} {cs : List Value} (h : OwnC w b cs) (i : Nat) (v : Value) (hv : cs[i]? = some v) : w.cell? ⟨b, i, none⟩ = some v := by
  rcases Nat.lt_or_ge i cs.length with h1 | h1
  · rw [h.c i h1, hv]
  · rw [List.getElem?_eq_none h1] at hv; cases hv
theorem OwnC.fr {w : World} {b : Nat} {cs : List Value} (h : OwnC w b cs) (i : Nat) (hi : i < cs.length) : w.frozen? ⟨b, i, none⟩ = false := h.f i hi
end Go.Proofs.YtahioajpmlochaaGreat.NumK
namespace Go.Proofs.YtahioajpmlochaaGreat.NumK

/-- The number, the state, the need. -/
abbrev Mb := Int × Int × Int
/-- The number, the currency, the price, the cut. -/
abbrev As := Int × Int × Int × Int
/-- The number, the currency, the multiplier, the add-on, the price that was told, the last one; the shifts. -/
abbrev In := (Int × Int × Int × Int × Int × Int) × (Int × Int × Int × Int × Int × Int)
abbrev Rl := List Mb × List In × List As
abbrev mb0 : Mb := (0, 0, 0)
abbrev as0 : As := (0, 0, 0, 0)
abbrev in0 : In := ((0, 0, 0, 0, 0, 0), (0, 0, 0, 0, 0, 0))

def noMb (x : Mb) : Int := x.1
def noIn (x : In) : Int := x.1.1
def noAs (x : As) : Int := x.1

def wi (n lo hi : Int) : Bool := decide (lo ≤ n) && decide (n ≤ hi)
theorem wi_iff (n lo hi : Int) : wi n lo hi = true ↔ lo ≤ n ∧ n ≤ hi := by simp [wi]
def okMb (x : Mb) : Bool := wi x.1 1 16 && wi x.2.1 1 3 && wi x.2.2 0 4611686018427387904
def okAs (x : As) : Bool := wi x.1 1 6 && wi x.2.1 0 2 && wi x.2.2.1 1 1073741824 && wi x.2.2.2 0 10000
def okSh (n : Int) : Bool := wi n (-1073741824) 1073741824
def shIn (x : In) : List Int := [x.2.1, x.2.2.1, x.2.2.2.1, x.2.2.2.2.1, x.2.2.2.2.2.1, x.2.2.2.2.2.2]
def okIn6 (x : In) : Bool := wi x.1.1 1 8 && wi x.1.2.1 0 2 && wi x.1.2.2.1 1 1024 && wi x.1.2.2.2.1 0 1073741824 && wi x.1.2.2.2.2.1 0 1073741824 && wi x.1.2.2.2.2.2 0 1073741824
def okIn (x : In) : Bool := (shIn x).all okSh && okIn6 x

section
variable {α : Type}

/-! ### lists that rise -/
def Rise (no : α → Int) (l : List α) : Prop := l.Pairwise fun x y => no x < no y

def stepOK (ok : α → Bool) (no : α → Int) (d : α) (l : List α) (j : Nat) : Bool := ok (l.getD j d) && (decide (j = 0) || decide (no (l.getD (j - 1) d) < no (l.getD j d)))
def rightL (ok : α → Bool) (no : α → Int) (d : α) (l : List α) : Bool := (List.range l.length).all (stepOK ok no d l)

theorem range_all_succ (p : Nat → Bool) (j : Nat) : (List.range (j + 1)).all p = ((List.range j).all p && p j) := by
  rw [List.range_succ, List.all_append]; simp
theorem range_all_no (p : Nat → Bool) (j n : Nat) (h : j < n) (hp : p j = false) : false = (List.range n).all p := by
  symm
  rw [List.all_eq_false]
  exact ⟨j, List.mem_range.2 h, by rw [hp]; decide⟩

theorem getD_mem (l : List α) (d : α) (j : Nat) (h : j < l.length) : l.getD j d ∈ l := by
  rw [show l.getD j d = l[j] by simp [List.getD, h]]; exact List.getElem_mem h
theorem getD_at (l : List α) (d : α) (j : Nat) (h : j < l.length) : l.getD j d = l[j] := by simp [List.getD, h]

theorem rise_of_steps (no : α → Int) (d : α) (l : List α) (h : ∀ j, 0 < j → j < l.length → no (l.getD (j - 1) d) < no (l.getD j d)) : Rise no l := by
  unfold Rise
  rw [List.pairwise_iff_getElem]
  intro i j hi hj hij
  induction j with
  | zero => omega
  | succ j ih =>
    have h1 := h (j + 1) (by omega) hj
    rw [getD_at _ _ _ hj, show j + 1 - 1 = j by omega, getD_at _ _ _ (by omega)] at h1
    by_cases hc : i = j
    · subst hc; exact h1
    · exact Int.lt_trans (ih (by omega) (by omega)) h1

theorem rightL_iff (ok : α → Bool) (no : α → Int) (d : α) (l : List α) : rightL ok no d l = true ↔ (∀ x ∈ l, ok x = true) ∧ Rise no l := by
  unfold rightL
  rw [List.all_eq_true]
  constructor
  · intro h
    refine ⟨fun x hx => ?_, rise_of_steps no d l fun j h0 hj => ?_⟩
    · obtain ⟨j, hj, rfl⟩ := List.getElem_of_mem hx
      have h1 := h j (List.mem_range.2 hj)
      unfold stepOK at h1
      rw [getD_at _ _ _ hj] at h1
      simp only [Bool.and_eq_true] at h1
      exact h1.1
    · have h1 := h j (List.mem_range.2 hj)
      unfold stepOK at h1
      simp only [Bool.and_eq_true, Bool.or_eq_true, decide_eq_true_eq] at h1
      rcases h1.2 with h2 | h2
      · omega
      · exact h2
  · rintro ⟨h1, h2⟩ j hj
    have hj := List.mem_range.1 hj
    unfold stepOK
    simp only [Bool.and_eq_true, Bool.or_eq_true, decide_eq_true_eq]
    refine ⟨h1 _ (getD_mem l d j hj), ?_⟩
    by_cases h0 : j = 0
    · exact Or.inl h0
    · right
      rw [getD_at _ _ _ hj, getD_at _ _ _ (by omega)]
      exact List.pairwise_iff_getElem.1 h2 (j - 1) j (by omega) hj (by omega)

/-- Two lists that rise, and have the same in them, are one. -/
theorem rise_ext (no : α → Int) : ∀ (l m : List α), Rise no l → Rise no m → (∀ y, y ∈ l ↔ y ∈ m) → l = m
  | [], [], _, _, _ => rfl
  | [], y :: m, _, _, h => by have := (h y).2 (by simp); simp at this
  | x :: l, [], _, _, h => by have := (h x).1 (by simp); simp at this
  | x :: l, y :: m, hl, hm, h => by
    have h1 := List.pairwise_cons.1 hl
    have h2 := List.pairwise_cons.1 hm
    have hxy : x = y := by
      have a1 : x ∈ y :: m := (h x).1 (by simp)
      have a2 : y ∈ x :: l := (h y).2 (by simp)
      rcases List.mem_cons.1 a1 with e | a1
      · exact e
      · rcases List.mem_cons.1 a2 with e | a2
        · exact e.symm
        · have := h2.1 x a1
          have := h1.1 y a2
          omega
    subst hxy
    congr 1
    refine rise_ext no l m h1.2 h2.2 fun z => ⟨fun hz => ?_, fun hz => ?_⟩
    · rcases List.mem_cons.1 ((h z).1 (List.mem_cons_of_mem _ hz)) with e | e
      · have := h1.1 z hz; rw [e] at this; omega
      · exact e
    · rcases List.mem_cons.1 ((h z).2 (List.mem_cons_of_mem _ hz)) with e | e
      · have := h2.1 z hz; rw [e] at this; omega
      · exact e

theorem rise_one {no : α → Int} {l : List α} (h : Rise no l) {x y : α} (hx : x ∈ l) (hy : y ∈ l) (he : no x = no y) : x = y := by
  obtain ⟨i, hi, rfl⟩ := List.getElem_of_mem hx
  obtain ⟨j, hj, rfl⟩ := List.getElem_of_mem hy
  have hp := List.pairwise_iff_getElem.1 h
  rcases Nat.lt_trichotomy i j with h1 | h1 | h1
  · have := hp i j hi hj h1; omega
  · subst h1; rfl
  · have := hp j i hj hi h1; omega

/-! ### who is found -/
def hasL (no : α → Int) (l : List α) (n : Int) : Bool := l.any fun x => decide (no x = n)
def findL (no : α → Int) (d : α) (l : List α) (n : Int) : α := (l.find? fun x => decide (no x = n)).getD d

/-! ### what is put -/
def putL (no : α → Int) (l : List α) (x : α) : List α := l.filter (fun y => decide (no y < no x)) ++ x :: l.filter (fun y => decide (no x < no y))

/-! ### how long a list may be -/
/-! ### as the document collects them -/
def collL (no : α → Int) (d : α) (l : List α) (x : α) (k : Nat) : List α :=
  (List.range k).flatMap fun i : Nat => if (i : Int) + 1 = no x then [x] else if hasL no l ((i : Int) + 1) = true then [findL no d l ((i : Int) + 1)] else []
end
end Go.Proofs.YtahioajpmlochaaGreat.NumK
namespace Go.Proofs.YtahioajpmlochaaGreat.NumK
open Go.RowKit
set_option linter.unusedVariables false

/-! ### cells written one behind the other -/
theorem putC_else {b : Nat} : ∀ (vs : List Value) (o : Nat) (w : World) (p : Addr), p.block ≠ b ∨ p.off < o ∨ o + vs.length ≤ p.off → (putC w b o vs).cell? p = w.cell? p
  | [], o, w, p, h => rfl
  | v :: vs, o, w, p, h => by
    show (putC (w.setCell ⟨b, o, none⟩ v) b (o + 1) vs).cell? p = _
    rw [List.length_cons] at h
    rw [putC_else vs (o + 1) _ p (by omega), World.cell?_setCell_other]
    intro e
    subst e
    dsimp only at h
    rcases h with h | h | h
    · exact h rfl
    · omega
    · omega
theorem putC_froz {b : Nat} : ∀ (vs : List Value) (o : Nat) (w : World) (p : Addr), (putC w b o vs).frozen? p = w.frozen? p
  | [], o, w, p => rfl
  | v :: vs, o, w, p => by
    show (putC (w.setCell ⟨b, o, none⟩ v) b (o + 1) vs).frozen? p = _
    rw [putC_froz vs (o + 1), World.frozen?_setCell]
theorem putC_size {b : Nat} : ∀ (vs : List Value) (o : Nat) (w : World), (putC w b o vs).heap.size = w.heap.size
  | [], _, _ => rfl
  | v :: vs, o, w => by
    show (putC (w.setCell ⟨b, o, none⟩ v) b (o + 1) vs).heap.size = _
    rw [putC_size vs (o + 1)]; simp [World.setCell]
theorem putC_same {b : Nat} : ∀ (vs : List Value) (o : Nat) (w : World), (∀ j, j < vs.length → ∃ v, w.cell? ⟨b, o + j, none⟩ = some v) → ∀ j, j < vs.length → (putC w b o vs).cell? ⟨b, o + j, none⟩ = vs[j]?
  | [], o, w, h, j, hj => absurd hj (Nat.not_lt_zero _)
  | v :: vs, o, w, h, j, hj => by
    show (putC (w.setCell ⟨b, o, none⟩ v) b (o + 1) vs).cell? _ = _
    obtain ⟨v0, hv0⟩ := h 0 (by simp)
    cases j with
    | zero =>
      rw [putC_else vs (o + 1) _ _ (by simp), Nat.add_zero]
      rw [Nat.add_zero] at hv0
      rw [World.cell?_setCell_same _ _ _ hv0]
      rfl
    | succ j =>
      have hj : j < vs.length := by simpa using hj
      have h2 := putC_same vs (o + 1) (w.setCell ⟨b, o, none⟩ v) (fun i hi => by
        obtain ⟨u, hu⟩ := h (i + 1) (by simp; omega)
        refine ⟨u, ?_⟩
        rw [World.cell?_setCell_other _ _ _ _ (by intro e; simp only [Addr.mk.injEq] at e; omega), show o + 1 + i = o + (i + 1) by omega]
        exact hu) j hj
      rw [show o + (j + 1) = o + 1 + j by omega, h2]
      simp
theorem Turn.putC {blk : Nat} {a : World} : ∀ (vs : List Value) (o : Nat) (b : World), Turn blk a b → Turn blk a (putC b blk o vs)
  | [], _, _, h => h
  | v :: vs, o, b, h => Turn.putC vs (o + 1) _ (h.setCell o v)

/-! ### the row -/
def RowS {α : Type} (E : En α) (L : Nat → α) (w : World) (blk n : Nat) (d : Nat → Nat) : Prop :=
  blk < w.heap.size ∧ ∀ k, k < n → ∀ j, j < E.size → w.cell? ⟨blk, k * E.size + j, none⟩ = (E.cs (L (d k)))[j]? ∧ w.frozen? ⟨blk, k * E.size + j, none⟩ = false
section
variable {α : Type} {E : En α} {L : Nat → α}
theorem RowS.keep {w w' : World} {blk n : Nat} {d : Nat → Nat} (h : RowS E L w blk n d) (g : Grew w w') : RowS E L w' blk n d :=
  ⟨Nat.lt_of_lt_of_le h.1 g.size, fun k hk j hj => ⟨(grew_cell g (p := ⟨blk, _, none⟩) h.1).trans (h.2 k hk j hj).1, (Below.frozen g (p := ⟨blk, _, none⟩) h.1).trans (h.2 k hk j hj).2⟩⟩
theorem mul_out {a b s i : Nat} (h : a ≠ b) (hi : i < s) : a * s + i < b * s ∨ b * s + s ≤ a * s + i := by
  rcases Nat.lt_or_gt_of_ne h with c | c
  · have : (a + 1) * s ≤ b * s := Nat.mul_le_mul_right s c
    rw [Nat.add_mul] at this; omega
  · have : (b + 1) * s ≤ a * s := Nat.mul_le_mul_right s c
    rw [Nat.add_mul] at this; omega
/-- One element written over. -/
theorem RowS.put {w : World} {blk n : Nat} {d : Nat → Nat} (h : RowS E L w blk n d) (i q : Nat) (hi : i < n) :
    RowS E L (putC w blk (i * E.size) (E.cs (L q))) blk n (fun k => if k = i then q else d k) := by
  refine ⟨by rw [putC_size]; exact h.1, fun k hk j hj => ⟨?_, by rw [putC_froz]; exact (h.2 k hk j hj).2⟩⟩
  by_cases c : k = i
  · subst c
    simp only [if_true]
    refine putC_same _ _ _ (fun j hj => ?_) j (by rw [E.len]; exact hj)
    rw [E.len] at hj
    rw [(h.2 k hk j hj).1]
    exact ⟨_, List.getElem?_eq_getElem (by rw [E.len]; exact hj)⟩
  · simp only [c, if_false]
    rw [putC_else _ _ _ _ (by rw [E.len]; rcases mul_out (s := E.size) c hj with h | h; exact Or.inr (Or.inl h); exact Or.inr (Or.inr h))]
    exact (h.2 k hk j hj).1
theorem RowS.drew {w : World} {blk n : Nat} {d : Nat → Nat} (h : RowS E L w blk n d) : RowS E L w.drew blk n d := h.keep (Below.drew (grew_refl w))
/-- Two elements change places. -/
theorem RowS.swap {w : World} {blk n : Nat} {d : Nat → Nat} (h : RowS E L w blk n d) (i j : Nat) (hi : i < n) (hj : j < n) (hij : i ≠ j) :
    RowS E L (putC (putC w blk (i * E.size) (E.cs (L (d j)))) blk (j * E.size) (E.cs (L (d i)))) blk n (sw d i j) := by
  have h2 := (h.put i (d j) hi).put j (d i) hj
  refine ⟨h2.1, fun k hk c hc => ?_⟩
  have h3 := h2.2 k hk c hc
  dsimp only at h3
  refine ⟨?_, h3.2⟩
  rw [h3.1]
  unfold sw
  by_cases c1 : k = j
  · subst c1
    rw [if_pos rfl, if_neg (fun e => hij e.symm), if_pos rfl]
  · rw [if_neg c1]
    by_cases c2 : k = i
    · rw [if_pos c2, if_pos c2]
    · rw [if_neg c2, if_neg c2, if_neg c1]
/-- Behind the first store of an exchange the other place holds what it held. -/
theorem RowS.two {w : World} {blk n : Nat} {d : Nat → Nat} (h : RowS E L w blk n d) (i j : Nat) (hj : j < n) (hij : i ≠ j) (vs : List Value) (hv : vs.length = E.size) (c : Nat) (hc : c < E.size) :
    (putC w blk (i * E.size) vs).cell? ⟨blk, j * E.size + c, none⟩ = (E.cs (L (d j)))[c]? ∧ (putC w blk (i * E.size) vs).frozen? ⟨blk, j * E.size + c, none⟩ = false := by
  refine ⟨?_, by rw [putC_froz]; exact (h.2 j hj c hc).2⟩
  rw [putC_else _ _ _ _ (by rw [hv]; rcases mul_out (s := E.size) (fun e => hij e.symm) hc with h | h; exact Or.inr (Or.inl h); exact Or.inr (Or.inr h))]
  exact (h.2 j hj c hc).1
/-- As a row of elements. -/
theorem RowS.row {w : World} {blk n : Nat} {d : Nat → Nat} (h : RowS E L w blk n d) : RowE E w (some ⟨blk, 0, none⟩) n ((List.range n).map fun k => L (d k)) := by
  refine ⟨by simp, fun hn => ⟨blk, 0, rfl, h.1, fun k hk => ⟨_, rfl, fun j hj => ?_⟩⟩⟩
  have hk : k < n := by simpa using hk
  have := (h.2 k hk j hj).1
  rw [List.getElem_map, List.getElem_range, Nat.zero_add]
  exact this
theorem RowS.of {w : World} {blk n : Nat} {l : List α} {d : α} (h : RowE E w (some ⟨blk, 0, none⟩) n l) (hb : blk < w.heap.size) (hf : ∀ k, w.frozen? ⟨blk, k, none⟩ = false) : RowS E (fun k => l.getD k d) w blk n (fun k => k) := by
  refine ⟨hb, fun k hk j hj => ⟨?_, hf _⟩⟩
  obtain ⟨b, o, e, _, hc⟩ := h.at (by omega)
  cases e
  have hl := h.len
  have := hc k (by omega) j hj
  rw [Nat.zero_add] at this
  dsimp only
  rw [getD_at l d k (by omega)]
  exact this

/-- What is asked of the comparison. -/
structure CmpS (E : En α) (L : Nat → α) (vE : α → Value) (g : Nat) (cb : Array Value) (cf : α → α → Int) (f : Nat → Int) (blk n : Nat) (w0 : World) : Prop where
  lt : ∀ x y, x < n → y < n → (cf (L x) (L y) < 0 ↔ f y < f x)
  call : ∀ w, Turn blk w0 w → ∀ x y : Nat, x < n → y < n → Calls Tryz.prog g (#[vE (L x), vE (L y)] ++ cb) w fun e w' => e = .returned (.int .i64 (cf (L x) (L y))) ∧ Grew w w'
/-- What a sort of the places from a up to b leaves. -/
def SortPostS (E : En α) (L : Nat → α) (f : Nat → Int) (blk n a b : Nat) (d : Nat → Nat) (w0 : World) (e : Ending) (w' : World) : Prop :=
  e = .returned (.tuple #[]) ∧ ∃ d', Moves a b d d' ∧ Sd f a b d' ∧ RowS E L w' blk n d' ∧ Turn blk w0 w'
theorem CmpS.all {vE : α → Value} {g : Nat} {cb : Array Value} {cf : α → α → Int} {f : Nat → Int} {blk n : Nat} {w0 w : World} (h : CmpS E L vE g cb cf f blk n w0) (hT : Turn blk w0 w) (x y : Nat) (hx : x < n) (hy : y < n) (p : GrewTo w) :
    Calls Tryz.prog g (#[vE (L x), vE (L y)] ++ cb) p.to fun e w' => e = .returned (.int .i64 (cf (L x) (L y))) ∧ Grew p.to w' := h.call _ (hT.grew p.h) x y hx hy
end
end Go.Proofs.YtahioajpmlochaaGreat.NumK
namespace Go.Proofs.YtahioajpmlochaaGreat.NumK
open Go.RowKit
set_option linter.unusedVariables false

/-- Who, the instrument, the quantity, the cost. -/
abbrev Po := Int × Int × Int × Int
abbrev Ky := Int × Int
abbrev po0 : Po := (0, 0, 0, 0)
/-- The number, the buyer, the seller, the instrument, the quantity, the price; off? -/
abbrev Tr := (Int × Int × Int × Int × Int × Int) × Bool
abbrev tr0 : Tr := ((0, 0, 0, 0, 0, 0), false)
def noTr (t : Tr) : Int := t.1.1

def sizedB (q p : Int) : Bool := wi q 1 1048576 && wi p 1 1073741824
def sizedT (t : Tr) : Bool := sizedB t.1.2.2.2.2.1 t.1.2.2.2.2.2
theorem sizedT_iff (t : Tr) : sizedT t = true ↔ (1 ≤ t.1.2.2.2.2.1 ∧ t.1.2.2.2.2.1 ≤ 1048576) ∧ 1 ≤ t.1.2.2.2.2.2 ∧ t.1.2.2.2.2.2 ≤ 1073741824 := by
  unfold sizedT sizedB; rw [Bool.and_eq_true, wi_iff, wi_iff]
/-- Both legs, n pieces. -/
def twoL (t : Tr) (n : Int) : List Po := [(t.1.2.1, t.1.2.2.2.1, n, n * t.1.2.2.2.2.2), (t.1.2.2.1, t.1.2.2.2.1, -n, -n * t.1.2.2.2.2.2)]
def legsT (t : Tr) (back : Bool) : List Po := if sizedT t then twoL t (if back then -t.1.2.2.2.2.1 else t.1.2.2.2.2.1) else []

/-! ### the sums of legs -/
def qty (l : List Po) : Int := (l.map (·.2.2.1)).sum
def cst (l : List Po) : Int := (l.map (·.2.2.2)).sum
def okAm (x : Po) : Bool := isMoney x.2.2.1 && isMoney x.2.2.2
def sumPE (l : List Po) : Int := if l.all okAm then (if isMoney (qty l) && isMoney (cst l) then 0 else 1) else 3
def sumPQ (l : List Po) : Int := if sumPE l = 0 then qty l else 0
def sumPC (l : List Po) : Int := if sumPE l = 0 then cst l else 0

theorem sum_app (l m : List Int) : (l ++ m).sum = l.sum + m.sum := by
  induction l with
  | nil => simp
  | cons x l ih => rw [List.cons_append, List.sum_cons, List.sum_cons, ih, Int.add_assoc]
theorem qty_app (l m : List Po) : qty (l ++ m) = qty l + qty m := by unfold qty; rw [List.map_append, sum_app]
theorem cst_app (l m : List Po) : cst (l ++ m) = cst l + cst m := by unfold cst; rw [List.map_append, sum_app]
theorem qty_nil : qty [] = 0 := rfl
theorem cst_nil : cst [] = 0 := rfl
theorem qty_cons (x : Po) (l : List Po) : qty (x :: l) = x.2.2.1 + qty l := by unfold qty; rw [List.map_cons, List.sum_cons]
theorem cst_cons (x : Po) (l : List Po) : cst (x :: l) = x.2.2.2 + cst l := by unfold cst; rw [List.map_cons, List.sum_cons]
theorem mul_in (q p : Int) (h : (1 ≤ q ∧ q ≤ 1048576) ∧ 1 ≤ p ∧ p ≤ 1073741824) : 0 ≤ q * p ∧ q * p ≤ 1125899906842624 := by
  refine ⟨Int.mul_nonneg (by omega) (by omega), ?_⟩
  calc q * p ≤ 1048576 * p := Int.mul_le_mul_of_nonneg_right (by omega) (by omega)
    _ ≤ 1048576 * 1073741824 := Int.mul_le_mul_of_nonneg_left (by omega) (by omega)

/-! ### keys -/
def keyP (x : Po) : Ky := (x.1, x.2.1)
def noK (k : Ky) : Int := k.1 * 8 + k.2
def noPo (x : Po) : Int := x.1 * 8 + x.2.1
def okK (k : Ky) : Bool := wi k.1 1 16 && wi k.2 1 8
theorem okK_iff (k : Ky) : okK k = true ↔ (1 ≤ k.1 ∧ k.1 ≤ 16) ∧ 1 ≤ k.2 ∧ k.2 ≤ 8 := by unfold okK; rw [Bool.and_eq_true, wi_iff, wi_iff]
/-- The order of keys. -/
def kltB (a b : Ky) : Bool := decide (a.1 < b.1) || (decide (a.1 = b.1) && decide (a.2 < b.2))
theorem klt_no {a b : Ky} (ha : okK a = true) (hb : okK b = true) : kltB a b = decide (noK a < noK b) := by
  obtain ⟨a1, a2⟩ := a
  obtain ⟨b1, b2⟩ := b
  rw [okK_iff] at ha hb
  unfold noK kltB
  simp only at ha hb ⊢
  rw [Bool.eq_iff_iff]
  simp only [Bool.or_eq_true, Bool.and_eq_true, decide_eq_true_eq]
  omega

/-- The keys, in their order. -/
def gridK : List Ky := (List.range 128).map fun i : Nat => (((i / 8 : Nat) : Int) + 1, ((i % 8 : Nat) : Int) + 1)
theorem grid_len : gridK.length = 128 := by unfold gridK; simp
theorem grid_at (i : Nat) (h : i < 128) : gridK[i]'(by rw [grid_len]; exact h) = (((i / 8 : Nat) : Int) + 1, ((i % 8 : Nat) : Int) + 1) := by
  unfold gridK; rw [List.getElem_map, List.getElem_range]
theorem mem_grid (k : Ky) : k ∈ gridK ↔ okK k = true := by
  rw [okK_iff]
  unfold gridK
  rw [List.mem_map]
  constructor
  · rintro ⟨i, hi, rfl⟩
    have := List.mem_range.1 hi
    simp only
    omega
  · rintro ⟨h1, h2⟩
    obtain ⟨a, b⟩ := k
    simp only at h1 h2
    refine ⟨((a - 1) * 8 + (b - 1)).toNat, List.mem_range.2 (by omega), ?_⟩
    simp only [Prod.mk.injEq]
    omega
theorem grid_rise : gridK.Pairwise fun a b => noK a < noK b := by
  unfold gridK
  rw [List.pairwise_map]
  refine List.Pairwise.imp (R := fun i j : Nat => i < j) (fun {i j} h => ?_) List.pairwise_lt_range
  unfold noK
  simp only
  omega

/-! ### what lists have of a key, of an instrument -/
def isK (k : Ky) (x : Po) : Bool := decide (x.1 = k.1) && decide (x.2.1 = k.2)
theorem isK_iff (k : Ky) (x : Po) : isK k x = true ↔ keyP x = k := by
  obtain ⟨a, b⟩ := k
  unfold isK keyP
  simp
def qK (l : List Po) (k : Ky) : Int := qty (l.filter (isK k))
def cK (l : List Po) (k : Ky) : Int := cst (l.filter (isK k))
def isI (n : Int) (x : Po) : Bool := decide (x.2.1 = n)
def qI (l : List Po) (n : Int) : Int := qty (l.filter (isI n))
def cI (l : List Po) (n : Int) : Int := cst (l.filter (isI n))

theorem qK_app (l m : List Po) (k : Ky) : qK (l ++ m) k = qK l k + qK m k := by unfold qK; rw [List.filter_append, qty_app]
theorem cK_app (l m : List Po) (k : Ky) : cK (l ++ m) k = cK l k + cK m k := by unfold cK; rw [List.filter_append, cst_app]
theorem qK_cons (x : Po) (l : List Po) (k : Ky) : qK (x :: l) k = (if isK k x then x.2.2.1 else 0) + qK l k := by
  unfold qK; rw [List.filter_cons]; split
  · rw [qty_cons]
  · simp
theorem cK_cons (x : Po) (l : List Po) (k : Ky) : cK (x :: l) k = (if isK k x then x.2.2.2 else 0) + cK l k := by
  unfold cK; rw [List.filter_cons]; split
  · rw [cst_cons]
  · simp
theorem qI_cons (x : Po) (l : List Po) (n : Int) : qI (x :: l) n = (if isI n x then x.2.2.1 else 0) + qI l n := by
  unfold qI; rw [List.filter_cons]; split
  · rw [qty_cons]
  · simp
theorem cI_cons (x : Po) (l : List Po) (n : Int) : cI (x :: l) n = (if isI n x then x.2.2.2 else 0) + cI l n := by
  unfold cI; rw [List.filter_cons]; split
  · rw [cst_cons]
  · simp
theorem qK_nil (k : Ky) : qK [] k = 0 := rfl
theorem cK_nil (k : Ky) : cK [] k = 0 := rfl
theorem qI_nil (n : Int) : qI [] n = 0 := rfl
theorem cI_nil (n : Int) : cI [] n = 0 := rfl

/-- An instrument's sum by members. -/
def byW (f : Ky → Int) (n : Int) : Int := ((List.range 16).map fun i : Nat => f ((i : Int) + 1, n)).sum
theorem byW_congr {f g : Ky → Int} {n : Int} (h : ∀ w : Int, 1 ≤ w → w ≤ 16 → f (w, n) = g (w, n)) : byW f n = byW g n := by
  unfold byW
  congr 1
  refine List.map_congr_left fun i hi => ?_
  have := List.mem_range.1 hi
  exact h _ (by omega) (by omega)
theorem sum_map_add (f g : Nat → Int) : ∀ l : List Nat, (l.map fun i => f i + g i).sum = (l.map f).sum + (l.map g).sum
  | [] => rfl
  | x :: l => by simp only [List.map_cons, List.sum_cons]; rw [sum_map_add f g l]; omega
theorem byW_add (f g : Ky → Int) (n : Int) : byW (fun k => f k + g k) n = byW f n + byW g n := sum_map_add _ _ _
theorem sum_one (a : Int) (v : Int) : ∀ m : Nat, ((List.range m).map fun i : Nat => if a = (i : Int) + 1 then v else 0).sum = if 1 ≤ a ∧ a ≤ m then v else 0
  | 0 => by rw [if_neg (by omega)]; rfl
  | m + 1 => by
    rw [List.range_succ, List.map_append, sum_app, sum_one a v m]
    simp only [List.map_cons, List.map_nil, List.sum_cons, List.sum_nil]
    by_cases h : a = (m : Int) + 1
    · rw [if_pos h, if_neg (by omega), if_pos (by omega)]; omega
    · rw [if_neg h]
      by_cases h2 : 1 ≤ a ∧ a ≤ (m : Int)
      · rw [if_pos h2, if_pos (by omega)]; omega
      · rw [if_neg h2, if_neg (by omega)]; rfl
theorem sum_zeros : ∀ l : List Nat, (l.map fun _ => (0 : Int)).sum = 0
  | [] => rfl
  | x :: l => by rw [List.map_cons, List.sum_cons, sum_zeros l]; rfl
theorem qI_byW (l : List Po) (n : Int) (h : ∀ x ∈ l, 1 ≤ x.1 ∧ x.1 ≤ 16) : qI l n = byW (qK l) n := by
  induction l with
  | nil => unfold byW; simp only [qK_nil, qI_nil]; rw [sum_zeros]
  | cons x l ih =>
    rw [qI_cons, ih fun y hy => h y (List.mem_cons_of_mem _ hy), byW_congr (f := qK (x :: l)) (g := fun k => (if isK k x then x.2.2.1 else 0) + qK l k) fun w _ _ => qK_cons x l _, byW_add]
    congr 1
    have hx := h x (by simp)
    unfold byW isI isK
    by_cases hn : x.2.1 = n
    · simp only [hn, decide_true, Bool.and_true, decide_eq_true_eq, if_true]
      rw [sum_one, if_pos (by omega)]
    · simp only [hn, decide_false, Bool.and_false, Bool.false_eq_true, if_false]
      rw [sum_zeros]
theorem cI_byW (l : List Po) (n : Int) (h : ∀ x ∈ l, 1 ≤ x.1 ∧ x.1 ≤ 16) : cI l n = byW (cK l) n := by
  induction l with
  | nil => unfold byW; simp only [cK_nil, cI_nil]; rw [sum_zeros]
  | cons x l ih =>
    rw [cI_cons, ih fun y hy => h y (List.mem_cons_of_mem _ hy), byW_congr (f := cK (x :: l)) (g := fun k => (if isK k x then x.2.2.2 else 0) + cK l k) fun w _ _ => cK_cons x l _, byW_add]
    congr 1
    have hx := h x (by simp)
    unfold byW isI isK
    by_cases hn : x.2.1 = n
    · simp only [hn, decide_true, Bool.and_true, decide_eq_true_eq, if_true]
      rw [sum_one, if_pos (by omega)]
    · simp only [hn, decide_false, Bool.and_false, Bool.false_eq_true, if_false]
      rw [sum_zeros]

/-! ### positions out of a function of keys -/
def plOf (f : Ky → Int × Int) (k : Ky) : Option Po := if (f k).1 = 0 ∧ (f k).2 = 0 then none else some (k.1, k.2, (f k).1, (f k).2)
def plF (f : Ky → Int × Int) (m : Nat) : List Po := (gridK.take m).filterMap (plOf f)
def plA (f : Ky → Int × Int) : List Po := gridK.filterMap (plOf f)
theorem pl_all (f : Ky → Int × Int) : plF f 128 = plA f := by unfold plF plA; rw [List.take_of_length_le (by rw [grid_len]; omega)]
theorem pl_succ (f : Ky → Int × Int) (m : Nat) (h : m < 128) (k : Ky) (hk : k = (((m / 8 : Nat) : Int) + 1, ((m % 8 : Nat) : Int) + 1)) :
    plF f (m + 1) = plF f m ++ (if (f k).1 = 0 ∧ (f k).2 = 0 then [] else [(k.1, k.2, (f k).1, (f k).2)]) := by
  unfold plF
  rw [List.take_succ_eq_append_getElem (by rw [grid_len]; exact h), List.filterMap_append, grid_at m h, ← hk]
  congr 1
  unfold plOf
  rw [List.filterMap_cons]
  split <;> rename_i e
  · split at e
    · next h2 => rw [if_pos h2]; rfl
    · cases e
  · split at e
    · cases e
    · next h2 => cases e; rw [if_neg h2]; rfl
theorem mem_pl (f : Ky → Int × Int) (y : Po) : y ∈ plA f ↔ okK (keyP y) = true ∧ f (keyP y) = (y.2.2.1, y.2.2.2) ∧ ¬ (y.2.2.1 = 0 ∧ y.2.2.2 = 0) := by
  unfold plA
  rw [List.mem_filterMap]
  constructor
  · rintro ⟨k, hk, e⟩
    unfold plOf at e
    split at e
    · cases e
    · next h =>
      cases e
      refine ⟨(mem_grid _).1 hk, rfl, h⟩
  · rintro ⟨h1, h2, h3⟩
    refine ⟨keyP y, (mem_grid _).2 h1, ?_⟩
    unfold plOf
    rw [h2, if_neg h3]
    rfl
theorem rise_pl (f : Ky → Int × Int) : Rise noPo (plA f) := by
  unfold Rise plA
  rw [List.pairwise_filterMap]
  refine List.Pairwise.imp (fun {a b} h x hx y hy => ?_) grid_rise
  unfold plOf at hx hy
  split at hx
  · cases hx
  · split at hy
    · cases hy
    · cases hx; cases hy; exact h
theorem pl_congr {f g : Ky → Int × Int} (h : ∀ k, okK k = true → f k = g k) : plA f = plA g :=
  rise_ext noPo _ _ (rise_pl f) (rise_pl g) fun y => by
    rw [mem_pl, mem_pl]
    constructor
    · rintro ⟨h1, h2, h3⟩; exact ⟨h1, by rw [← h _ h1]; exact h2, h3⟩
    · rintro ⟨h1, h2, h3⟩; exact ⟨h1, by rw [h _ h1]; exact h2, h3⟩

/-! ### positions that rise have one of each key -/
theorem filter_one {l : List Po} (h : Rise noPo l) (hk : ∀ x ∈ l, okK (keyP x) = true) {y : Po} (hy : y ∈ l) : l.filter (isK (keyP y)) = [y] := by
  refine rise_ext noPo _ _ (List.Pairwise.filter _ h) (by simp [Rise]) fun z => ?_
  rw [List.mem_filter, isK_iff, List.mem_singleton]
  constructor
  · rintro ⟨h1, h2⟩
    refine rise_one h h1 hy ?_
    show noK (keyP z) = noK (keyP y)
    rw [h2]
  · rintro rfl; exact ⟨hy, rfl⟩
theorem filter_none {l : List Po} {k : Ky} (h : ∀ x ∈ l, keyP x ≠ k) : l.filter (isK k) = [] := by
  rw [List.filter_eq_nil_iff]
  intro x hx he
  exact h x hx ((isK_iff k x).1 he)
def sumK2 (l : List Po) (k : Ky) : Int × Int := (qK l k, cK l k)
theorem sum_of_mem {l : List Po} (h : Rise noPo l) (hk : ∀ x ∈ l, okK (keyP x) = true) {y : Po} (hy : y ∈ l) : sumK2 l (keyP y) = (y.2.2.1, y.2.2.2) := by
  unfold sumK2 qK cK
  rw [filter_one h hk hy, qty_cons, qty_nil, cst_cons, cst_nil, Int.add_zero, Int.add_zero]
theorem sum_of_not {l : List Po} {k : Ky} (h : ∀ x ∈ l, keyP x ≠ k) : sumK2 l k = (0, 0) := by
  unfold sumK2 qK cK
  rw [filter_none h]; rfl
/-- Such positions are what their sums say. -/
theorem pl_self {l : List Po} (h : Rise noPo l) (hk : ∀ x ∈ l, okK (keyP x) = true ∧ ¬ (x.2.2.1 = 0 ∧ x.2.2.2 = 0)) : plA (sumK2 l) = l :=
  rise_ext noPo _ _ (rise_pl _) h fun y => by
    rw [mem_pl]
    constructor
    · rintro ⟨h1, h2, h3⟩
      by_cases hc : ∃ x ∈ l, keyP x = keyP y
      · obtain ⟨x, hx, e⟩ := hc
        have h4 := sum_of_mem h (fun x hx => (hk x hx).1) hx
        rw [e, h2] at h4
        have e1 : x = y := by
          obtain ⟨x1, x2, x3, x4⟩ := x
          obtain ⟨y1, y2, y3, y4⟩ := y
          simp only [keyP, Prod.mk.injEq] at e h4 ⊢
          exact ⟨e.1, e.2, h4.1.symm, h4.2.symm⟩
        rw [← e1]; exact hx
      · rw [sum_of_not fun x hx he => hc ⟨x, hx, he⟩] at h2
        simp only [Prod.mk.injEq] at h2
        exact absurd ⟨h2.1.symm, h2.2.symm⟩ h3
    · intro hy
      exact ⟨(hk y hy).1, sum_of_mem h (fun x hx => (hk x hx).1) hy, (hk y hy).2⟩
theorem sum_pl (f : Ky → Int × Int) (k : Ky) (hk : okK k = true) : sumK2 (plA f) k = f k := by
  by_cases hc : (f k).1 = 0 ∧ (f k).2 = 0
  · rw [sum_of_not]
    · rw [Prod.ext_iff]; exact ⟨hc.1.symm, hc.2.symm⟩
    · intro x hx he
      obtain ⟨h1, h2, h3⟩ := (mem_pl f x).1 hx
      rw [he] at h2
      rw [h2] at hc
      exact h3 hc
  · have hm : (k.1, k.2, (f k).1, (f k).2) ∈ plA f := (mem_pl f _).2 ⟨hk, rfl, hc⟩
    exact sum_of_mem (rise_pl f) (fun x hx => ((mem_pl f x).1 hx).1) hm

/-- The first position of a key. -/
def ofP (l : List Po) (k : Ky) : Po := (l.find? (isK k)).getD (k.1, k.2, 0, 0)
theorem of_sum {l : List Po} (h : Rise noPo l) (hk : ∀ x ∈ l, okK (keyP x) = true) (k : Ky) : ofP l k = (k.1, k.2, qK l k, cK l k) := by
  unfold ofP
  by_cases hc : ∃ x ∈ l, keyP x = k
  · obtain ⟨x, hx, rfl⟩ := hc
    have h1 := filter_one h hk hx
    have h2 : l.find? (isK (keyP x)) = some x := by rw [← List.head?_filter, h1]; rfl
    have h3 := sum_of_mem h hk hx
    unfold sumK2 at h3
    simp only [Prod.mk.injEq] at h3
    rw [h2, h3.1, h3.2]
    rfl
  · have h1 := filter_none fun x hx he => hc ⟨x, hx, he⟩
    have h2 : l.find? (isK k) = none := by rw [← List.head?_filter, h1]; rfl
    have h3 := sum_of_not fun x hx he => hc ⟨x, hx, he⟩
    unfold sumK2 at h3
    simp only [Prod.mk.injEq] at h3
    rw [h2, h3.1, h3.2]
    rfl
end Go.Proofs.YtahioajpmlochaaGreat.NumK
namespace Go.Proofs.YtahioajpmlochaaGreat.NumK
open Go.RowKit
set_option linter.unusedVariables false

/-- Who, the instrument, the bidder, the quantity, the price. -/
abbrev Bi := Int × Int × Int × Int × Int
abbrev bi0 : Bi := (0, 0, 0, 0, 0)
/-- The bidder, the quantity, the price. -/
abbrev Fi := Int × Int × Int
abbrev fi0 : Fi := (0, 0, 0)
def okBi (b : Bi) : Bool := wi b.2.2.2.1 1 1048576 && wi b.2.2.2.2 1 1073741824
theorem okBi_iff (b : Bi) : okBi b = true ↔ (1 ≤ b.2.2.2.1 ∧ b.2.2.2.1 ≤ 1048576) ∧ 1 ≤ b.2.2.2.2 ∧ b.2.2.2.2 ≤ 1073741824 := by unfold okBi; rw [Bool.and_eq_true, wi_iff, wi_iff]

def fillF : Int → List Bi → List Fi
  | _, [] => []
  | left, b :: o => if 0 < left then (b.2.2.1, min left b.2.2.2.1, b.2.2.2.2) :: fillF (left - min left b.2.2.2.1) o else []
def restF : Int → List Bi → Int
  | left, [] => left
  | left, b :: o => if 0 < left then restF (left - min left b.2.2.2.1) o else left
def bidS (l : List Bi) : Int := (l.map (·.2.2.2.1)).sum
def filS (l : List Fi) : Int := (l.map (·.2.1)).sum
theorem filS_cons (b : Fi) (l : List Fi) : filS (b :: l) = b.2.1 + filS l := by unfold filS; rw [List.map_cons, List.sum_cons]
def Pos1 (l : List Bi) : Prop := ∀ b ∈ l, 1 ≤ b.2.2.2.1
theorem Pos1.tail {b : Bi} {l : List Bi} (h : Pos1 (b :: l)) : 1 ≤ b.2.2.2.1 ∧ Pos1 l := ⟨h b (by simp), fun x hx => h x (List.mem_cons_of_mem _ hx)⟩
theorem fill_zero : ∀ (o : List Bi), fillF 0 o = []
  | [] => rfl
  | b :: o => by unfold fillF; rw [if_neg (by omega)]
theorem rest_zero : ∀ (o : List Bi), restF 0 o = 0
  | [] => rfl
  | b :: o => by unfold restF; rw [if_neg (by omega)]
/-! ### bidders at a price -/
def filG (p : Int → Int → Bool) (l : List Fi) : Int := filS (l.filter fun x => p x.1 x.2.2)
def bidG (p : Int → Int → Bool) (l : List Bi) : Int := bidS (l.filter fun b => p b.2.2.1 b.2.2.2.2)
end Go.Proofs.YtahioajpmlochaaGreat.NumK
namespace Go.Proofs.YtahioajpmlochaaGreat.NumK

/-! ### sums over places -/
def sm (g : Nat → Int) : Nat → Int
  | 0 => 0
  | n + 1 => sm g n + g n

theorem sm_congr {g h : Nat → Int} {n : Nat} (e : ∀ k, k < n → g k = h k) : sm g n = sm h n := by
  induction n with
  | zero => rfl
  | succ n ih => rw [sm, sm, ih (fun k hk => e k (by omega)), e n (by omega)]
theorem sm_add (g h : Nat → Int) (n : Nat) : sm (fun k => g k + h k) n = sm g n + sm h n := by
  induction n with
  | zero => rfl
  | succ n ih => rw [sm, sm, sm, ih]; omega
theorem sm_zero (n : Nat) : sm (fun _ => 0) n = 0 := by
  induction n with
  | zero => rfl
  | succ n ih => rw [sm, ih]; rfl
theorem sm_mul (c : Int) (g : Nat → Int) (n : Nat) : sm (fun k => c * g k) n = c * sm g n := by
  induction n with
  | zero => simp [sm]
  | succ n ih => rw [sm, sm, ih, Int.mul_add]
theorem sm_le {g h : Nat → Int} {n : Nat} (e : ∀ k, k < n → g k ≤ h k) : sm g n ≤ sm h n := by
  induction n with
  | zero => exact Int.le_refl _
  | succ n ih =>
    have h1 := ih (fun k hk => e k (by omega))
    have h2 := e n (by omega)
    rw [sm, sm]; omega
theorem sm_const (c : Int) (n : Nat) : sm (fun _ => c) n = n * c := by
  induction n with
  | zero => simp [sm]
  | succ n ih => rw [sm, ih]; rw [show ((n + 1 : Nat) : Int) = (n : Int) + 1 from by omega, Int.add_mul]; omega
theorem sm_delta (a : Nat) (c : Int) (n : Nat) : sm (fun k => if k = a then c else 0) n = if a < n then c else 0 := by
  induction n with
  | zero => simp [sm]
  | succ n ih =>
    rw [sm, ih]
    by_cases h1 : n = a
    · subst h1; rw [if_neg (by omega), if_pos rfl, if_pos (by omega)]; omega
    · rw [if_neg h1]
      by_cases h2 : a < n
      · rw [if_pos h2, if_pos (by omega)]; omega
      · rw [if_neg h2, if_neg (by omega)]; rfl
theorem sm_comm (g : Nat → Nat → Int) (n m : Nat) : sm (fun i => sm (fun j => g i j) m) n = sm (fun j => sm (fun i => g i j) n) m := by
  induction n with
  | zero => simp only [sm]; exact (sm_zero m).symm
  | succ n ih => simp only [sm]; rw [ih, ← sm_add]
theorem sm_list (l : List Int) (n : Nat) (h : l.length = n) : sm (fun k => l.getD k 0) n = l.sum := by
  subst h
  induction l with
  | nil => rfl
  | cons x l ih =>
    have : ∀ m, sm (fun k => (x :: l).getD k 0) (m + 1) = x + sm (fun k => l.getD k 0) m := by
      intro m
      induction m with
      | zero => simp [sm]
      | succ m ihm => rw [sm, ihm, sm]; simp [Int.add_assoc]
    rw [List.length_cons, this, ih, List.sum_cons]

/-! ### places -/
/-- s: who stands at a place; t: the place of one: by f, from the greatest on. -/
structure Pl (f : Nat → Int) (n : Nat) (s t : Nat → Nat) : Prop where
  st : ∀ k, s (t k) = k
  ts : ∀ k, t (s k) = k
  out : ∀ k, n ≤ k → s k = k
  up : ∀ i j, i < j → j < n → Ah f (s i) (s j)

theorem Pl.lt_s {f : Nat → Int} {n : Nat} {s t : Nat → Nat} (h : Pl f n s t) {k : Nat} (hk : k < n) : s k < n := by
  rcases Nat.lt_or_ge (s k) n with c | c
  · exact c
  · have e1 := h.out (s k) c
    have e2 : s k = k := by rw [← h.ts (s k), e1, h.ts]
    omega
theorem Pl.lt_t {f : Nat → Int} {n : Nat} {s t : Nat → Nat} (h : Pl f n s t) {k : Nat} (hk : k < n) : t k < n := by
  rcases Nat.lt_or_ge (t k) n with c | c
  · exact c
  · have e1 := h.out (t k) c
    rw [h.st] at e1; omega

theorem Pl.ahead {f : Nat → Int} {n : Nat} {s t : Nat → Nat} (h : Pl f n s t) {x y : Nat} (hx : x < n) (hy : y < n) : t x < t y ↔ Ah f x y := by
  constructor
  · intro c
    have := h.up (t x) (t y) c (h.lt_t hy)
    rwa [h.st, h.st] at this
  · intro c
    rcases Nat.lt_trichotomy (t x) (t y) with d | d | d
    · exact d
    · have e : x = y := by rw [← h.st x, d, h.st]
      subst e; unfold Ah at c; omega
    · have := h.up (t y) (t x) d (h.lt_t hx)
      rw [h.st, h.st] at this
      unfold Ah at *; omega

theorem mono_ge (g : Nat → Nat) (n : Nat) (h : ∀ i j, i < j → j < n → g i < g j) : ∀ i, i < n → i ≤ g i := by
  intro i
  induction i with
  | zero => intro _; omega
  | succ i ih => intro hi; have := ih (by omega); have := h i (i + 1) (by omega) hi; omega

/-- The places hang on the order alone. -/
theorem Pl.only {f f' : Nat → Int} {n : Nat} {s t s' t' : Nat → Nat} (h : Pl f n s t) (h' : Pl f' n s' t') (hf : ∀ x y, x < n → y < n → (Ah f x y ↔ Ah f' x y)) (k : Nat) (hk : k < n) : t k = t' k := by
  have g1 := mono_ge (fun i => t' (s i)) n (fun i j a b => (h'.ahead (h.lt_s (by omega)) (h.lt_s b)).2 ((hf _ _ (h.lt_s (by omega)) (h.lt_s b)).1 (h.up i j a b)))
  have g2 := mono_ge (fun i => t (s' i)) n (fun i j a b => (h.ahead (h'.lt_s (by omega)) (h'.lt_s b)).2 ((hf _ _ (h'.lt_s (by omega)) (h'.lt_s b)).2 (h'.up i j a b)))
  have hj := h'.lt_t hk
  have a1 := g2 (t' k) hj
  have a2 := g1 (t (s' (t' k))) (by rw [h'.st]; exact h.lt_t hk)
  simp only [h'.st] at a1 a2
  rw [h.st] at a2
  omega

theorem Pl.sum {f : Nat → Int} {n : Nat} {s t : Nat → Nat} (h : Pl f n s t) (g : Nat → Int) : sm (fun k => g (s k)) n = sm g n := by
  have e1 : ∀ k, k < n → g (s k) = sm (fun i => if i = s k then g i else 0) n := by
    intro k hk
    have : sm (fun i => if i = s k then g i else 0) n = sm (fun i => if i = s k then g (s k) else 0) n := sm_congr fun i _ => by
      split
      · next e => rw [e]
      · rfl
    rw [this, sm_delta, if_pos (h.lt_s hk)]
  rw [sm_congr e1, sm_comm]
  refine sm_congr fun i hi => ?_
  have : sm (fun k => if i = s k then g i else 0) n = sm (fun k => if k = t i then g i else 0) n := sm_congr fun k _ => by
    by_cases c : i = s k
    · rw [if_pos c, if_pos (by rw [c, h.ts])]
    · rw [if_neg c, if_neg (fun e => c (by rw [e, h.st]))]
  rw [this, sm_delta, if_pos (h.lt_t hi)]

theorem pl_sym {n : Nat} {s t : Nat → Nat} (st : ∀ k, s (t k) = k) (ts : ∀ k, t (s k) = k) (g : Nat → Int) (hs : ∀ k, k < n → s k < n) (ht : ∀ k, k < n → t k < n) : sm (fun k => g (t k)) n = sm g n := by
  have e1 : ∀ k, k < n → g (t k) = sm (fun i => if i = t k then g i else 0) n := by
    intro k hk
    have : sm (fun i => if i = t k then g i else 0) n = sm (fun i => if i = t k then g (t k) else 0) n := sm_congr fun i _ => by
      split
      · next e => rw [e]
      · rfl
    rw [this, sm_delta, if_pos (ht k hk)]
  rw [sm_congr e1, sm_comm]
  refine sm_congr fun i hi => ?_
  have : sm (fun k => if i = t k then g i else 0) n = sm (fun k => if k = s i then g i else 0) n := sm_congr fun k _ => by
    by_cases c : i = t k
    · rw [if_pos c, if_pos (by rw [c, st])]
    · rw [if_neg c, if_neg (fun e => c (by rw [e, ts]))]
  rw [this, sm_delta, if_pos (hs i hi)]

/-- From a sorted row that was 0, 1, 2 .. -/
theorem pl_of {f : Nat → Int} {n : Nat} {e : Nat → Nat} (hm : Moves 0 n (fun k => k) e) (hs : Sd f 0 n e) : ∃ t, Pl f n e t := by
  obtain ⟨s, t, h1, h2, h3, h4⟩ := hm
  have he : e = s := funext h4
  subst he
  exact ⟨t, h1, h2, fun k hk => h3 k (by omega), fun i j a b => hs i j (by omega) a b⟩

/-! ### weights -/
def wt (l : List Int) (k : Nat) : Int := l.getD k 0
/-- The exact share, rounded down; its remainder; what is left. -/
def qs (T : Int) (l : List Int) (k : Nat) : Int := T * wt l k / l.sum
def rs (T : Int) (l : List Int) (k : Nat) : Int := T * wt l k % l.sum
def lf (T : Int) (l : List Int) : Int := T - sm (qs T l) l.length

theorem wt_nonneg {l : List Int} (h : ∀ x ∈ l, 0 ≤ x) (k : Nat) : 0 ≤ wt l k := by
  unfold wt
  rw [List.getD_eq_getElem?_getD]
  rcases Nat.lt_or_ge k l.length with c | c
  · rw [List.getElem?_eq_getElem c]; exact h _ (List.getElem_mem _)
  · rw [List.getElem?_eq_none c]; exact Int.le_refl _
theorem sum_nonneg {l : List Int} (h : ∀ x ∈ l, 0 ≤ x) : 0 ≤ l.sum := by
  induction l with
  | nil => exact Int.le_refl _
  | cons x l ih => rw [List.sum_cons]; have := h x (by simp); have := ih (fun y hy => h y (by simp [hy])); omega
theorem wt_le_sum {l : List Int} (h : ∀ x ∈ l, 0 ≤ x) (k : Nat) : wt l k ≤ l.sum := by
  induction l generalizing k with
  | nil => simp [wt]
  | cons x l ih =>
    have h1 := h x (by simp)
    have h2 : ∀ y ∈ l, 0 ≤ y := fun y hy => h y (by simp [hy])
    have h3 := sum_nonneg h2
    rw [List.sum_cons]
    cases k with
    | zero => show x ≤ _; omega
    | succ k => have := ih h2 k; show wt l k ≤ _; omega
theorem sum_zero {l : List Int} (h : ∀ x ∈ l, 0 ≤ x) (hz : l.sum = 0) (k : Nat) : wt l k = 0 := by
  have := wt_nonneg h k; have := wt_le_sum h k; omega

theorem qr (T : Int) (l : List Int) (k : Nat) : qs T l k * l.sum + rs T l k = T * wt l k := by
  unfold qs rs; rw [Int.mul_comm]; exact Int.mul_ediv_add_emod _ _
theorem rs_bd (T : Int) (l : List Int) (k : Nat) (h : 0 < l.sum) : 0 ≤ rs T l k ∧ rs T l k < l.sum :=
  ⟨Int.emod_nonneg _ (by omega), Int.emod_lt_of_pos _ h⟩
theorem qs_nonneg {T : Int} {l : List Int} (hT : 0 ≤ T) (h : ∀ x ∈ l, 0 ≤ x) (k : Nat) : 0 ≤ qs T l k :=
  Int.ediv_nonneg (Int.mul_nonneg hT (wt_nonneg h k)) (sum_nonneg h)
theorem qs_le {T : Int} {l : List Int} (hT : 0 ≤ T) (h : ∀ x ∈ l, 0 ≤ x) (k : Nat) : qs T l k ≤ T := by
  unfold qs
  have h1 := sum_nonneg h
  rcases Int.lt_or_eq_of_le h1 with c | c
  · refine Int.ediv_le_of_le_mul c ?_
    exact Int.mul_le_mul_of_nonneg_left (wt_le_sum h k) hT
  · rw [← c, Int.ediv_zero]; exact hT

theorem rest_sum (T : Int) (l : List Int) (m : Nat) : sm (rs T l) m = T * sm (wt l) m - l.sum * sm (qs T l) m := by
  have e : sm (rs T l) m = sm (fun k => T * wt l k + (-l.sum) * qs T l k) m := sm_congr fun k _ => by
    have := qr T l k
    rw [Int.mul_comm] at this
    rw [Int.neg_mul]; omega
  rw [e, sm_add, sm_mul, sm_mul, Int.neg_mul]; omega
theorem rest_all (T : Int) (l : List Int) : sm (rs T l) l.length = l.sum * lf T l := by
  rw [rest_sum T l _]
  unfold lf
  have : sm (wt l) l.length = l.sum := sm_list l _ rfl
  rw [this, Int.mul_sub, Int.mul_comm T]

theorem lf_bd {T : Int} {l : List Int} (h : ∀ x ∈ l, 0 ≤ x) (hz : l.sum = 0 → T = 0) : 0 ≤ lf T l ∧ lf T l ≤ l.length := by
  have h0 := sum_nonneg h
  rcases Int.lt_or_eq_of_le h0 with c | c
  · have e := rest_all T l
    have a1 : 0 ≤ sm (rs T l) l.length := by
      have := sm_le (g := fun _ => 0) (h := rs T l) (n := l.length) fun k _ => (rs_bd T l k c).1
      rwa [sm_zero] at this
    have a2 : sm (rs T l) l.length ≤ l.length * l.sum := by
      have := sm_le (g := rs T l) (h := fun _ => l.sum) (n := l.length) fun k _ => by have := (rs_bd T l k c).2; omega
      rwa [sm_const] at this
    rw [e] at a1 a2
    rw [Int.mul_comm (l.length : Int)] at a2
    exact ⟨by
      rcases Int.lt_or_le (lf T l) 0 with d | d
      · have := Int.mul_neg_of_pos_of_neg c d; omega
      · exact d, Int.le_of_mul_le_mul_left a2 c⟩
  · have hT := hz c.symm
    subst hT
    have : lf 0 l = 0 := by
      unfold lf
      have : sm (qs 0 l) l.length = sm (fun _ => 0) l.length := sm_congr fun k _ => by unfold qs; simp
      rw [this, sm_zero]; rfl
    rw [this]; omega
theorem lf_mid {T : Int} {l : List Int} (hT : 0 ≤ T) (h : ∀ x ∈ l, 0 ≤ x) (hz : l.sum = 0 → T = 0) (m : Nat) (hm : m ≤ l.length) : 0 ≤ T - sm (qs T l) m ∧ T - sm (qs T l) m ≤ T := by
  have a0 := lf_bd h hz
  unfold lf at a0
  have a1 : ∀ d, sm (qs T l) m ≤ sm (qs T l) (m + d) := by
    intro d
    induction d with
    | zero => exact Int.le_refl _
    | succ d ih => have := qs_nonneg hT h (m + d); rw [show m + (d + 1) = (m + d) + 1 from rfl, sm]; omega
  have a2 := a1 (l.length - m)
  rw [show m + (l.length - m) = l.length from by omega] at a2
  have a3 : 0 ≤ sm (qs T l) m := by
    have := sm_le (g := fun _ => 0) (h := qs T l) (n := m) fun k _ => qs_nonneg hT h k
    rwa [sm_zero] at this
  omega

/-- Who gets one more. -/
def pt (T : Int) (l : List Int) (t : Nat → Nat) (k : Nat) : Int := qs T l k + if (t k : Int) < lf T l then 1 else 0

theorem more_pos {T : Int} {l : List Int} {s t : Nat → Nat} (hS : 0 < l.sum) (P : Pl (rs T l) l.length s t) (k : Nat) (hk : k < l.length) (hl : (t k : Int) < lf T l) : 0 < rs T l k := by
  rcases Int.lt_or_le 0 (rs T l k) with c | c
  · exact c
  · have e := rest_all T l
    rw [← P.sum (rs T l)] at e
    have ht := P.lt_t hk
    have bd : ∀ j, j < l.length → rs T l (s j) ≤ if j < t k then l.sum else 0 := by
      intro j hj
      by_cases d : j < t k
      · rw [if_pos d]; have := (rs_bd T l (s j) hS).2; omega
      · rw [if_neg d]
        by_cases d2 : j = t k
        · rw [d2, P.st]; omega
        · have := P.up (t k) j (by omega) hj
          rw [P.st] at this
          unfold Ah at this; omega
    have a := sm_le bd
    have b : sm (fun j => if j < t k then l.sum else 0) l.length = t k * l.sum := by
      have : ∀ n, sm (fun j => if j < t k then l.sum else 0) n = (if n < t k then n else t k : Nat) * l.sum := by
        intro n
        induction n with
        | zero =>
          have : (if 0 < t k then 0 else t k : Nat) = 0 := by split <;> omega
          rw [this]; simp [sm]
        | succ n ih =>
          rw [sm, ih]
          by_cases d : n < t k
          · rw [if_pos d, if_pos d]
            have : (if n + 1 < t k then n + 1 else t k : Nat) = n + 1 := by split <;> omega
            rw [this, show ((n + 1 : Nat) : Int) = (n : Int) + 1 from by omega, Int.add_mul]; omega
          · rw [if_neg d, if_neg d, if_neg (by omega)]; omega
      rw [this, if_neg (by omega)]
    rw [e, b, Int.mul_comm] at a
    have := Int.le_of_mul_le_mul_right a hS
    omega

theorem ones_sum (c : Int) (n : Nat) (h0 : 0 ≤ c) (h1 : c ≤ n) : sm (fun k => if (k : Int) < c then 1 else 0) n = c := by
  have : ∀ m : Nat, sm (fun k => if (k : Int) < c then 1 else 0) m = if (m : Int) < c then (m : Int) else c := by
    intro m
    induction m with
    | zero => simp only [sm]; split <;> omega
    | succ m ih =>
      simp only [sm]; rw [ih]
      split <;> split <;> omega
  rw [this]; split <;> omega

theorem pt_sum {T : Int} {l : List Int} {s t : Nat → Nat} (h : ∀ x ∈ l, 0 ≤ x) (hz : l.sum = 0 → T = 0) (P : Pl (rs T l) l.length s t) : sm (pt T l t) l.length = T := by
  have e : sm (pt T l t) l.length = sm (qs T l) l.length + sm (fun k => if (t k : Int) < lf T l then 1 else 0) l.length := sm_add _ _ _
  have b := lf_bd h hz
  have e2 := pl_sym P.st P.ts (fun k => if (k : Int) < lf T l then 1 else 0) (fun k => P.lt_s) (fun k => P.lt_t)
  rw [e, e2, ones_sum _ _ b.1 b.2]
  unfold lf; omega

end Go.Proofs.YtahioajpmlochaaGreat.NumK
namespace Go.Proofs.YtahioajpmlochaaGreat.NumK
open Go.RowKit
set_option linter.unusedVariables false

section
variable {α : Type}
/-- Put behind all that have no lesser key. -/
def insF (f : α → Int) (x : α) : List α → List α
  | [] => [x]
  | y :: ys => if f y < f x then x :: y :: ys else y :: insF f x ys
def ordF (f : α → Int) (l : List α) : List α := l.foldl (fun out x => insF f x out) []
def Desc (f : α → Int) (l : List α) : Prop := l.Pairwise fun a b => f b ≤ f a
theorem ordF_snoc (f : α → Int) (l : List α) (x : α) : ordF f (l ++ [x]) = insF f x (ordF f l) := by unfold ordF; rw [List.foldl_append]; rfl
theorem insF_mem (f : α → Int) (x : α) : ∀ (l : List α) (y : α), y ∈ insF f x l ↔ y = x ∨ y ∈ l
  | [], y => by simp [insF]
  | z :: l, y => by
    unfold insF
    split
    · simp
    · rw [List.mem_cons, insF_mem f x l y, List.mem_cons]
      constructor
      · rintro (h | h | h)
        · exact Or.inr (Or.inl h)
        · exact Or.inl h
        · exact Or.inr (Or.inr h)
      · rintro (h | h | h)
        · exact Or.inr (Or.inl h)
        · exact Or.inl h
        · exact Or.inr (Or.inr h)
theorem insF_len (f : α → Int) (x : α) : ∀ (l : List α), (insF f x l).length = l.length + 1
  | [] => rfl
  | z :: l => by
    unfold insF
    split
    · rfl
    · rw [List.length_cons, insF_len f x l, List.length_cons]
theorem insF_desc {f : α → Int} (x : α) : ∀ {l : List α}, Desc f l → Desc f (insF f x l)
  | [], _ => by simp [insF, Desc]
  | z :: l, h => by
    have h1 := List.pairwise_cons.1 h
    unfold insF
    split
    · next c =>
      refine List.pairwise_cons.2 ⟨fun y hy => ?_, h⟩
      rcases List.mem_cons.1 hy with rfl | hy
      · omega
      · have := h1.1 y hy; omega
    · next c =>
      refine List.pairwise_cons.2 ⟨fun y hy => ?_, insF_desc x h1.2⟩
      rcases (insF_mem f x l y).1 hy with rfl | hy
      · omega
      · exact h1.1 y hy
/-- It parts the row. -/
theorem insF_split {f : α → Int} (x : α) : ∀ {l : List α}, Desc f l → ∃ a c, insF f x l = a ++ x :: c ∧ l = a ++ c ∧ (∀ y ∈ a, f x ≤ f y) ∧ ∀ y ∈ c, f y < f x
  | [], _ => ⟨[], [], rfl, rfl, by simp, by simp⟩
  | z :: l, h => by
    have h1 := List.pairwise_cons.1 h
    unfold insF
    by_cases c : f z < f x
    · rw [if_pos c]
      refine ⟨[], z :: l, rfl, rfl, by simp, fun y hy => ?_⟩
      rcases List.mem_cons.1 hy with rfl | hy
      · exact c
      · have := h1.1 y hy; omega
    · rw [if_neg c]
      obtain ⟨a, b, e1, e2, e3, e4⟩ := insF_split x h1.2
      refine ⟨z :: a, b, by rw [e1]; rfl, by rw [e2]; rfl, fun y hy => ?_, e4⟩
      rcases List.mem_cons.1 hy with rfl | hy
      · omega
      · exact e3 y hy
theorem insF_class {f : α → Int} (x : α) {l : List α} (h : Desc f l) (v : Int) : (insF f x l).filter (fun y => decide (f y = v)) = l.filter (fun y => decide (f y = v)) ++ (if f x = v then [x] else []) := by
  obtain ⟨a, c, e1, e2, e3, e4⟩ := insF_split x h
  rw [e1, e2, List.filter_append, List.filter_append, List.filter_cons]
  by_cases hv : f x = v
  · rw [if_pos (by simpa using hv), if_pos hv]
    have hc : c.filter (fun y => decide (f y = v)) = [] := by
      rw [List.filter_eq_nil_iff]
      intro y hy
      have := e4 y hy
      simp; omega
    rw [hc]; simp
  · rw [if_neg (by simpa using hv), if_neg hv]; simp
theorem ordF_rec {P : List α → Prop} (h0 : P []) (h1 : ∀ l x, P l → P (l ++ [x])) (l : List α) : P l := by
  have h2 : ∀ (m : List α), P m.reverse := by
    intro m
    induction m with
    | nil => exact h0
    | cons x m ih => rw [List.reverse_cons]; exact h1 _ _ ih
  have := h2 l.reverse
  rwa [List.reverse_reverse] at this
theorem ordF_desc (f : α → Int) (l : List α) : Desc f (ordF f l) := by
  refine ordF_rec (P := fun l => Desc f (ordF f l)) ?_ (fun l x ih => ?_) l
  · exact List.Pairwise.nil
  · show Desc f (ordF f (l ++ [x])); rw [ordF_snoc]; exact insF_desc x ih
theorem ordF_class (f : α → Int) (l : List α) (v : Int) : (ordF f l).filter (fun y => decide (f y = v)) = l.filter (fun y => decide (f y = v)) := by
  refine ordF_rec (P := fun l => (ordF f l).filter (fun y => decide (f y = v)) = l.filter (fun y => decide (f y = v))) rfl (fun l x ih => ?_) l
  show (ordF f (l ++ [x])).filter _ = _
  rw [ordF_snoc, insF_class x (ordF_desc f l), ih, List.filter_append, List.filter_cons, List.filter_nil]
  congr 1
  by_cases hv : f x = v
  · rw [if_pos hv, if_pos (by simpa using hv)]
  · rw [if_neg hv, if_neg (by simpa using hv)]
theorem ordF_len (f : α → Int) (l : List α) : (ordF f l).length = l.length := by
  refine ordF_rec (P := fun l => (ordF f l).length = l.length) rfl (fun l x ih => ?_) l
  show (ordF f (l ++ [x])).length = _
  rw [ordF_snoc, insF_len, ih, List.length_append]; rfl
theorem ordF_mem (f : α → Int) (l : List α) (y : α) : y ∈ ordF f l ↔ y ∈ l := by
  refine ordF_rec (P := fun l => y ∈ ordF f l ↔ y ∈ l) Iff.rfl (fun l x ih => ?_) l
  show y ∈ ordF f (l ++ [x]) ↔ _
  rw [ordF_snoc, insF_mem, ih, List.mem_append, List.mem_singleton]
  exact Or.comm
/-- Two rows that go down, with the same of each key, are one. -/
theorem desc_ext {f : α → Int} : ∀ {a b : List α}, Desc f a → Desc f b → (∀ v, a.filter (fun y => decide (f y = v)) = b.filter (fun y => decide (f y = v))) → a = b
  | [], [], _, _, _ => rfl
  | [], y :: b, _, _, h => by have := h (f y); simp at this
  | x :: a, [], _, _, h => by have := h (f x); simp at this
  | x :: a, y :: b, ha, hb, h => by
    have h1 := List.pairwise_cons.1 ha
    have h2 := List.pairwise_cons.1 hb
    have e1 : f x ≤ f y := by
      have h3 : x ∈ (y :: b).filter (fun z => decide (f z = f x)) := by rw [← h (f x)]; simp
      have h4 := (List.mem_filter.1 h3).1
      rcases List.mem_cons.1 h4 with e | h4
      · rw [e]; exact Int.le_refl _
      · exact h2.1 x h4
    have e2 : f y ≤ f x := by
      have h3 : y ∈ (x :: a).filter (fun z => decide (f z = f y)) := by rw [h (f y)]; simp
      have h4 := (List.mem_filter.1 h3).1
      rcases List.mem_cons.1 h4 with e | h4
      · rw [e]; exact Int.le_refl _
      · exact h1.1 y h4
    have e3 : f x = f y := by omega
    have h5 := h (f x)
    rw [List.filter_cons, List.filter_cons, if_pos (by simp), if_pos (by simp [e3])] at h5
    obtain ⟨rfl, h6⟩ := List.cons.inj h5
    congr 1
    refine desc_ext h1.2 h2.2 fun v => ?_
    have h7 := h v
    rw [List.filter_cons, List.filter_cons] at h7
    by_cases hv : f x = v
    · rw [if_pos (by simpa using hv), if_pos (by simpa using hv)] at h7
      exact (List.cons.inj h7).2
    · rw [if_neg (by simpa using hv), if_neg (by simpa using hv)] at h7
      exact h7
end

theorem rise_nat : ∀ (l m : List Nat), l.Pairwise (· < ·) → m.Pairwise (· < ·) → (∀ y, y ∈ l ↔ y ∈ m) → l = m := by
  intro l m hl hm h
  refine rise_ext (fun n : Nat => (n : Int)) l m ?_ ?_ h
  · exact hl.imp fun {a b} h => by show (a : Int) < b; omega
  · exact hm.imp fun {a b} h => by show (a : Int) < b; omega
/-- What stands at the places is the order. -/
theorem pl_ord {α : Type} {f : α → Int} {d : α} {l : List α} {s t : Nat → Nat} (h : Pl (fun k => f (l.getD k d)) l.length s t) : (List.range l.length).map (fun k => l.getD (s k) d) = ordF f l := by
  have hl : l = (List.range l.length).map (fun k => l.getD k d) := by
    apply List.ext_getElem
    · simp
    · intro i h1 h2; simp [List.getD, h1]
  refine desc_ext ?_ (ordF_desc f l) fun v => ?_
  · unfold Desc
    rw [List.pairwise_map]
    refine List.pairwise_iff_getElem.2 fun i j hi hj hij => ?_
    rw [List.getElem_range, List.getElem_range]
    have hj2 : j < l.length := by simpa using hj
    have := h.up i j hij hj2
    unfold Ah at this
    dsimp only at this
    omega
  · rw [ordF_class]
    have e1 : ((List.range l.length).map (fun k => l.getD (s k) d)).filter (fun y => decide (f y = v)) = (((List.range l.length).map s).filter (fun i => decide (f (l.getD i d) = v))).map (fun i => l.getD i d) := by
      rw [show (List.range l.length).map (fun k => l.getD (s k) d) = ((List.range l.length).map s).map (fun i => l.getD i d) by rw [List.map_map]; rfl, List.filter_map]; rfl
    have e2 : l.filter (fun y => decide (f y = v)) = ((List.range l.length).filter (fun i => decide (f (l.getD i d) = v))).map (fun i => l.getD i d) := by
      have e3 : l.filter (fun y => decide (f y = v)) = ((List.range l.length).map (fun k => l.getD k d)).filter (fun y => decide (f y = v)) := by rw [← hl]
      rw [e3, List.filter_map]; rfl
    rw [e1, e2]
    congr 1
    refine rise_nat _ _ ?_ (List.Pairwise.filter _ List.pairwise_lt_range) fun y => ?_
    · rw [List.pairwise_filter, List.pairwise_map]
      refine List.pairwise_iff_getElem.2 fun i j hi hj hij h1 h2 => ?_
      rw [List.getElem_range] at h1 h2 ⊢
      rw [List.getElem_range] at *
      have hj2 : j < l.length := by simpa using hj
      have h3 := h.up i j hij hj2
      rw [decide_eq_true_eq] at h1 h2
      unfold Ah at h3
      dsimp only at h3
      rcases h3 with h3 | h3
      · omega
      · exact h3.2
    · rw [List.mem_filter, List.mem_filter, List.mem_map, List.mem_range]
      constructor
      · rintro ⟨⟨k, hk, rfl⟩, h2⟩
        exact ⟨h.lt_s (List.mem_range.1 hk), h2⟩
      · rintro ⟨h1, h2⟩
        exact ⟨⟨t y, List.mem_range.2 (h.lt_t h1), h.st y⟩, h2⟩

/-! ### bids -/
def keyB (long : Bool) (b : Bi) : Int := (if long then b.2.2.2.2 else -b.2.2.2.2) * 18446744073709551616 - b.2.2.1
def in64 (n : Int) : Prop := -9223372036854775808 ≤ n ∧ n ≤ 9223372036854775807
/-- Ahead: by the price, then by the bidder. -/
def aheadB (long : Bool) (a b : Bi) : Bool := if a.2.2.2.2 = b.2.2.2.2 then decide (a.2.2.1 < b.2.2.1) else (decide (a.2.2.2.2 > b.2.2.2.2) == long)
theorem key_lt {long : Bool} {a b : Bi} (ha : in64 a.2.2.1) (hb : in64 b.2.2.1) : aheadB long a b = decide (keyB long b < keyB long a) := by
  unfold in64 at ha hb
  unfold aheadB keyB
  cases long
  · simp only [Bool.false_eq_true, if_false]
    by_cases h : a.2.2.2.2 = b.2.2.2.2
    · rw [if_pos h, h]; exact decide_eq_decide.2 (by omega)
    · rw [if_neg h]
      by_cases h2 : a.2.2.2.2 > b.2.2.2.2
      · rw [decide_eq_true h2]; symm; exact decide_eq_false (by omega)
      · rw [decide_eq_false h2]; symm; exact decide_eq_true (by omega)
  · simp only [if_true]
    by_cases h : a.2.2.2.2 = b.2.2.2.2
    · rw [if_pos h, h]; exact decide_eq_decide.2 (by omega)
    · rw [if_neg h]
      by_cases h2 : a.2.2.2.2 > b.2.2.2.2
      · rw [decide_eq_true h2]; symm; exact decide_eq_true (by omega)
      · rw [decide_eq_false h2]; symm; exact decide_eq_false (by omega)
/-- The order of bids. -/
def ordB (long : Bool) (l : List Bi) : List Bi := ordF (keyB long) l
theorem ord_pos {long : Bool} {l : List Bi} (h : Pos1 l) : Pos1 (ordB long l) := fun b hb => h b ((ordF_mem _ _ _).1 hb)
/-- What a position is filled with, and what is left. -/
def auF (q : Int) (l : List Bi) : List Fi := fillF (max q (-q)) (ordB (decide (q > 0)) l)
def auR (q : Int) (l : List Bi) : Int := restF (max q (-q)) (ordB (decide (q > 0)) l)
def auOK (q : Int) (l : List Bi) : Bool := wi q (-1099511627776) 1099511627776 && l.all okBi
theorem auOK_iff (q : Int) (l : List Bi) : auOK q l = true ↔ (-1099511627776 ≤ q ∧ q ≤ 1099511627776) ∧ ∀ b ∈ l, okBi b = true := by
  unfold auOK; rw [Bool.and_eq_true, wi_iff, List.all_eq_true]
theorem auOK_pos {q : Int} {l : List Bi} (h : auOK q l = true) : Pos1 l := fun b hb => ((okBi_iff b).1 (((auOK_iff q l).1 h).2 b hb)).1.1
/-- A bidder at a price. -/
def atB (w p : Int) : Int → Int → Bool := fun a b => decide (a = w) && decide (b = p)
end Go.Proofs.YtahioajpmlochaaGreat.NumK
namespace Go.Proofs.YtahioajpmlochaaGreat.NumK
open Go.RowKit
set_option linter.unusedVariables false

/-- Three ints; eight; four; five. -/
abbrev D3 := Int × Int × Int
abbrev F8 := Int × Int × Int × Int × Int × Int × Int × Int
abbrev C4 := Int × Int × Int × Int
abbrev B5 := Int × Int × Int × Int × Int
def enD3 : En D3 := ⟨3, fun x => [.int .i64 x.1, .int .i64 x.2.1, .int .i64 x.2.2], fun _ => rfl, fun a v hv => by
  simp at hv; rcases hv with rfl | rfl | rfl <;> rfl, by decide⟩
def enF8 : En F8 := ⟨8, fun x => [.int .i64 x.1, .int .i64 x.2.1, .int .i64 x.2.2.1, .int .i64 x.2.2.2.1, .int .i64 x.2.2.2.2.1, .int .i64 x.2.2.2.2.2.1, .int .i64 x.2.2.2.2.2.2.1, .int .i64 x.2.2.2.2.2.2.2], fun _ => rfl, fun a v hv => by
  simp at hv; rcases hv with rfl | rfl | rfl | rfl | rfl | rfl | rfl | rfl <;> rfl, by decide⟩
def enC4 : En C4 := ⟨4, fun x => [.int .i64 x.1, .int .i64 x.2.1, .int .i64 x.2.2.1, .int .i64 x.2.2.2], fun _ => rfl, fun a v hv => by
  simp at hv; rcases hv with rfl | rfl | rfl | rfl <;> rfl, by decide⟩
def enB5 : En B5 := ⟨5, fun x => [.int .i64 x.1, .int .i64 x.2.1, .int .i64 x.2.2.1, .int .i64 x.2.2.2.1, .int .i64 x.2.2.2.2], fun _ => rfl, fun a v hv => by
  simp at hv; rcases hv with rfl | rfl | rfl | rfl | rfl <;> rfl, by decide⟩

def CD3 (w : World) (b p : Nat) (x : D3) : Prop := w.cell? ⟨b, p, none⟩ = some (.int .i64 x.1) ∧ w.cell? ⟨b, p + 1, none⟩ = some (.int .i64 x.2.1) ∧ w.cell? ⟨b, p + 2, none⟩ = some (.int .i64 x.2.2)
theorem RowE.rD3 {w : World} {n : Nat} {l : List D3} {A : Option Addr} (h : RowE enD3 w A n l) {j : Nat} (hj : j < n) : ∃ b o, A = some ⟨b, o, none⟩ ∧ b < w.heap.size ∧ ∀ j, j < n → CD3 w b (o + j * 3) (l.getD j (0, 0, 0)) := by
  have hl := h.len
  obtain ⟨b, o, e, hb, hc⟩ := h.at (by omega)
  refine ⟨b, o, e, hb, fun j hj => ?_⟩
  have hj' : j < l.length := by omega
  rw [getD_at l (0, 0, 0) j hj']
  exact ⟨hc j hj' 0 (by decide), hc j hj' 1 (by decide), hc j hj' 2 (by decide)⟩

def CF8 (w : World) (b p : Nat) (x : F8) : Prop := w.cell? ⟨b, p, none⟩ = some (.int .i64 x.1) ∧ w.cell? ⟨b, p + 1, none⟩ = some (.int .i64 x.2.1) ∧ w.cell? ⟨b, p + 2, none⟩ = some (.int .i64 x.2.2.1) ∧ w.cell? ⟨b, p + 3, none⟩ = some (.int .i64 x.2.2.2.1) ∧ w.cell? ⟨b, p + 4, none⟩ = some (.int .i64 x.2.2.2.2.1) ∧ w.cell? ⟨b, p + 5, none⟩ = some (.int .i64 x.2.2.2.2.2.1) ∧ w.cell? ⟨b, p + 6, none⟩ = some (.int .i64 x.2.2.2.2.2.2.1) ∧ w.cell? ⟨b, p + 7, none⟩ = some (.int .i64 x.2.2.2.2.2.2.2)
def CC4 (w : World) (b p : Nat) (x : C4) : Prop := w.cell? ⟨b, p, none⟩ = some (.int .i64 x.1) ∧ w.cell? ⟨b, p + 1, none⟩ = some (.int .i64 x.2.1) ∧ w.cell? ⟨b, p + 2, none⟩ = some (.int .i64 x.2.2.1) ∧ w.cell? ⟨b, p + 3, none⟩ = some (.int .i64 x.2.2.2)
def CB5 (w : World) (b p : Nat) (x : B5) : Prop := w.cell? ⟨b, p, none⟩ = some (.int .i64 x.1) ∧ w.cell? ⟨b, p + 1, none⟩ = some (.int .i64 x.2.1) ∧ w.cell? ⟨b, p + 2, none⟩ = some (.int .i64 x.2.2.1) ∧ w.cell? ⟨b, p + 3, none⟩ = some (.int .i64 x.2.2.2.1) ∧ w.cell? ⟨b, p + 4, none⟩ = some (.int .i64 x.2.2.2.2)
theorem RowE.rB5 {w : World} {n : Nat} {l : List B5} {A : Option Addr} (h : RowE enB5 w A n l) {j : Nat} (hj : j < n) : ∃ b o, A = some ⟨b, o, none⟩ ∧ b < w.heap.size ∧ ∀ j, j < n → CB5 w b (o + j * 5) (l.getD j (0, 0, 0, 0, 0)) := by
  have hl := h.len
  obtain ⟨b, o, e, hb, hc⟩ := h.at (by omega)
  refine ⟨b, o, e, hb, fun j hj => ?_⟩
  have hj' : j < l.length := by omega
  rw [getD_at l (0, 0, 0, 0, 0) j hj']
  exact ⟨hc j hj' 0 (by decide), hc j hj' 1 (by decide), hc j hj' 2 (by decide), hc j hj' 3 (by decide), hc j hj' 4 (by decide)⟩
end Go.Proofs.YtahioajpmlochaaGreat.NumK
namespace Go.Proofs.YtahioajpmlochaaGreat.NumK
open Go.RowKit
set_option linter.unusedVariables false

abbrev vBd (x : B5) : Value := .agg #[.int .i64 x.1, .int .i64 x.2.1, .int .i64 x.2.2.1, .int .i64 x.2.2.2.1, .int .i64 x.2.2.2.2]
theorem info_bd : (Tryz.prog.info? 65).map (fun i => (i.zero, i.size, i.bytes)) = some (some (vBd bi0), 5, 40) := by kernel_rfl
abbrev RowBd (L : Nat → B5) (w : World) (blk n : Nat) (d : Nat → Nat) : Prop := RowS enB5 L w blk n d
def FZ5 (w : World) (b o : Nat) : Prop :=
  w.frozen? ⟨b, o, none⟩ = false ∧ w.frozen? ⟨b, o + 1, none⟩ = false ∧ w.frozen? ⟨b, o + 2, none⟩ = false ∧ w.frozen? ⟨b, o + 3, none⟩ = false ∧ w.frozen? ⟨b, o + 4, none⟩ = false
/-- One written over. -/
def put5 (w : World) (b o : Nat) (x : B5) : World :=
  ((((w.setCell ⟨b, o, none⟩ (.int .i64 x.1)).setCell ⟨b, o + 1, none⟩ (.int .i64 x.2.1)).setCell ⟨b, o + 2, none⟩ (.int .i64 x.2.2.1)).setCell ⟨b, o + 3, none⟩ (.int .i64 x.2.2.2.1)).setCell ⟨b, o + 4, none⟩ (.int .i64 x.2.2.2.2)
theorem cb5_of {w : World} {b o : Nat} {x : B5} (h : ∀ j, j < 5 → w.cell? ⟨b, o + j, none⟩ = (enB5.cs x)[j]?) : CB5 w b o x :=
  ⟨h 0 (by omega), h 1 (by omega), h 2 (by omega), h 3 (by omega), h 4 (by omega)⟩
theorem fz5_of {w : World} {b o : Nat} (h : ∀ j, j < 5 → w.frozen? ⟨b, o + j, none⟩ = false) : FZ5 w b o :=
  ⟨h 0 (by omega), h 1 (by omega), h 2 (by omega), h 3 (by omega), h 4 (by omega)⟩
theorem CB5.keep {w w' : World} {b o : Nat} {x : B5} (h : CB5 w b o x) (hb : b < w.heap.size) (g : Grew w w') : CB5 w' b o x :=
  ⟨(grew_cell g (p := ⟨b, _, none⟩) hb).trans h.1, (grew_cell g (p := ⟨b, _, none⟩) hb).trans h.2.1, (grew_cell g (p := ⟨b, _, none⟩) hb).trans h.2.2.1, (grew_cell g (p := ⟨b, _, none⟩) hb).trans h.2.2.2.1, (grew_cell g (p := ⟨b, _, none⟩) hb).trans h.2.2.2.2⟩
section
variable {L : Nat → B5}
theorem rowB_cells {w : World} {blk n : Nat} {d : Nat → Nat} (h : RowBd L w blk n d) {k : Nat} (hk : k < n) : CB5 w blk (k * 5) (L (d k)) := cb5_of fun j hj => (h.2 k hk j hj).1
theorem rowB_froz {w : World} {blk n : Nat} {d : Nat → Nat} (h : RowBd L w blk n d) {k : Nat} (hk : k < n) : FZ5 w blk (k * 5) := fz5_of fun j hj => (h.2 k hk j hj).2
theorem rowB_all {w : World} {blk n : Nat} {d : Nat → Nat} (h : RowBd L w blk n d) {k : Nat} (hk : k < n) (p : GrewTo w) : CB5 p.to blk (k * 5) (L (d k)) := rowB_cells (h.keep p.h) hk
/-- Two change places. -/
theorem rowB_swap {w : World} {blk n : Nat} {d : Nat → Nat} (h : RowBd L w blk n d) (i j : Nat) (hi : i < n) (hj : j < n) (hij : i ≠ j) :
    RowBd L (put5 (put5 w blk (i * 5) (L (d j))) blk (j * 5) (L (d i))).drew blk n (sw d i j) := (h.swap i j hi hj hij).drew
theorem rowB_two {w : World} {blk n : Nat} {d : Nat → Nat} (h : RowBd L w blk n d) (i j : Nat) (hj : j < n) (hij : i ≠ j) (x : B5) :
    CB5 (put5 w blk (i * 5) x) blk (j * 5) (L (d j)) := cb5_of fun c hc => (h.two i j hj hij (enB5.cs x) rfl c hc).1
theorem turn_put5 {blk : Nat} {a b : World} (h : Turn blk a b) (o : Nat) (x : B5) : Turn blk a (put5 b blk o x) := Turn.putC (enB5.cs x) o b h
theorem turn_put25 {blk : Nat} {a b : World} (h : Turn blk a b) (o p : Nat) (x y : B5) : Turn blk a (put5 (put5 b blk o x) blk p y).drew := (turn_put5 (turn_put5 h o x) p y).drew
end
abbrev CmpB (L : Nat → B5) (g : Nat) (cb : Array Value) (cf : B5 → B5 → Int) (f : Nat → Int) (blk n : Nat) (w0 : World) : Prop := CmpS enB5 L vBd g cb cf f blk n w0
abbrev SortPostB (L : Nat → B5) (f : Nat → Int) (blk n a b : Nat) (d : Nat → Nat) (w0 : World) (e : Ending) (w' : World) : Prop := SortPostS enB5 L f blk n a b d w0 e w'
end Go.Proofs.YtahioajpmlochaaGreat.NumK
namespace Go.Proofs.YtahioajpmlochaaGreat.NumK
open Go.RowKit
set_option linter.unusedVariables false

theorem RowE.one {α : Type} (E : En α) (w : World) (x : α) (t : TypeId) (N : Nat) (hN : N = w.heap.size) : RowE E (w.alloc (.cells (E.cs x).toArray t)) (some ⟨N, 0, none⟩) 1 [x] := by
  subst hN
  refine ⟨rfl, fun _ => ⟨_, _, rfl, by simp, fun j hj => ⟨_, rfl, fun i hi => ?_⟩⟩⟩
  have hj : j < 1 := hj
  obtain rfl : j = 0 := by omega
  rw [Nat.zero_mul, Nat.zero_add, World.cell?_alloc_at _ _ _ _ rfl]
  simp
def cmpI (x y : Int) : Int := if x < y then -1 else if x > y then 1 else 0
theorem isNaN_any (x : Int) (w : World) : Calls Tryz.prog 96 #[.int .i64 x] w fun e w' => e = .returned (.bool false) ∧ w = w' := by
  go_enter Tryz.func96, Tryz.ntmps96
  go_wp2
  go_ret
  exact ⟨rfl, rfl⟩
theorem compare_any (x y : Int) (w : World) : Calls Tryz.prog 76 #[.int .i64 x, .int .i64 y] w fun e w' => e = .returned (.int .i64 (cmpI x y)) ∧ w = w' := by
  have C1 := fun w => isNaN_any x w
  have C2 := fun w => isNaN_any y w
  have HC : Hid (cmpI x y = if x < y then -1 else if x > y then 1 else 0) := rfl
  generalize cmpI x y = R at *
  by_cases h1 : x < y
  · have HR : Hid (R = -1) := by show _ = _; rw [HC.out, if_pos h1]
    clear HC
    go_enter Tryz.func76, Tryz.ntmps76
    go_wp2_with (first
      | (go_at_call 96; ((with_reducible refine (C1 _).mono ?_); rintro e w1 ⟨rfl, rfl⟩))
      | (go_at_call 96; ((with_reducible refine (C2 _).mono ?_); rintro e w1 ⟨rfl, rfl⟩)))
    go_ret
    exact ⟨ret_i HR.out.symm, rfl⟩
  · by_cases h2 : x > y
    · have HR : Hid (R = 1) := by show _ = _; rw [HC.out, if_neg h1, if_pos h2]
      clear HC
      go_enter Tryz.func76, Tryz.ntmps76
      go_wp2_with (first
        | (go_at_call 96; ((with_reducible refine (C1 _).mono ?_); rintro e w1 ⟨rfl, rfl⟩))
        | (go_at_call 96; ((with_reducible refine (C2 _).mono ?_); rintro e w1 ⟨rfl, rfl⟩)))
      go_ret
      exact ⟨ret_i HR.out.symm, rfl⟩
    · have HR : Hid (R = 0) := by show _ = _; rw [HC.out, if_neg h1, if_neg h2]
      clear HC
      go_enter Tryz.func76, Tryz.ntmps76
      go_wp2_with (first
        | (go_at_call 96; ((with_reducible refine (C1 _).mono ?_); rintro e w1 ⟨rfl, rfl⟩))
        | (go_at_call 96; ((with_reducible refine (C2 _).mono ?_); rintro e w1 ⟨rfl, rfl⟩)))
      go_ret
      exact ⟨ret_i HR.out.symm, rfl⟩
def orI (x y : Int) : Int := if x ≠ 0 then x else y
theorem or_any (A : Option Addr) (c : Nat) (x y : Int) (w : World) (h : Ints w A 2 [x, y]) :
    Calls Tryz.prog 77 #[.slice A 2 c] w fun e w' => e = .returned (.int .i64 (orI x y)) ∧ w = w' := by
  have HV : Hid (orI x y = if x ≠ 0 then x else y) := rfl
  generalize orI x y = V at *
  obtain ⟨b, o, rfl, hb, hc⟩ := h.2 (by decide)
  have HA0 : Hid (w.cell? ⟨b, o, none⟩ = some (.int .i64 x)) := hc 0 (by decide)
  have HA1 : Hid (w.cell? ⟨b, o + 1, none⟩ = some (.int .i64 y)) := hc 1 (by decide)
  clear hc h
  go_enter Tryz.func77, Tryz.ntmps77
  go_wp2
  go_loop [5, 8] (fun v5 v8 => ∃ j : Nat, v8 = .int .i64 j ∧ Hid (j = 0 ∨ (j = 1 ∧ x = 0) ∨ (j = 2 ∧ x = 0 ∧ y = 0))) (fun _ v8 => 2 - (intOf v8).toNat)
  case atStart => exact ⟨0, rfl, .inl rfl⟩
  case round =>
    obtain ⟨j, rfl, HS⟩ := hrel
    rcases HS.out with rfl | ⟨rfl, rfl⟩ | ⟨rfl, rfl, rfl⟩
    · have a0 := HA0.out
      clear HS HA0 HA1
      by_cases h1 : x = 0
      · subst h1
        clear HV
        go_wp2
        go_round
        case rel => exact ⟨1, by go_num, .inr (.inl ⟨rfl, by trivial⟩)⟩
        case measure => simp only [intOf]; omega
      · have HF : Hid (V = x) := by show _ = _; rw [HV.out, if_pos h1]
        have d1 : (x == 0) = false := by simpa using h1
        clear HV h1
        go_wp2
        go_ret
        exact ⟨ret_i HF.out.symm, by first | rfl | trivial⟩
    · have a1 := HA1.out
      have HF : Hid (V = y) := by show _ = _; rw [HV.out, if_neg (by simp)]
      clear HS HA0 HA1 HV
      by_cases h1 : y = 0
      · subst h1
        clear HF
        go_wp2
        go_round
        case rel => exact ⟨2, by go_num, .inr (.inr ⟨rfl, by trivial⟩)⟩
        case measure => simp only [intOf]; omega
      · have d1 : (y == 0) = false := by simpa using h1
        clear h1
        go_wp2
        go_ret
        exact ⟨ret_i HF.out.symm, by first | rfl | trivial⟩
    · have HF : Hid (V = 0) := by show _ = _; rw [HV.out, if_neg (by simp)]
      clear HS HA0 HA1 HV
      go_wp2
      go_ret
      exact ⟨ret_i HF.out.symm, by first | rfl | trivial⟩
end Go.Proofs.YtahioajpmlochaaGreat.NumK
namespace Go.Proofs.YtahioajpmlochaaGreat.NumK
open Go.RowKit
theorem grew_every {w : World} {S : World → Prop} (h : ∀ w', Grew w w' → S w') : ∀ p : GrewTo w, S p.to := fun p => h p.to p.h
theorem calls_every {P : Program} {f : FuncId} {args : Array Value} {w : World} {p : GrewTo w} {v : Value}
    (h : ∀ w', Grew w w' → Calls P f args w' fun e w'' => e = .returned v ∧ Grew w' w'') : Calls P f args p.to fun e w'' => e = .returned v ∧ ∃ q : GrewTo w, w'' = q.to := calls_grew (h p.to p.h)
end Go.Proofs.YtahioajpmlochaaGreat.NumK
namespace Go.Proofs.YtahioajpmlochaaGreat.NumK
open Go.RowKit
set_option linter.unusedVariables false

abbrev vFi (x : Fi) : Value := .agg #[.int .i64 x.1, .int .i64 x.2.1, .int .i64 x.2.2]
theorem info_fi : (Tryz.prog.info? 40).map (fun i => (i.zero, i.size, i.bytes)) = some (some (vFi fi0), 3, 24) := by kernel_rfl
/-! ### numbers -/
theorem auwithin_any (n lo hi : Int) (w : World) : Calls Tryz.prog 13 #[.int .i64 n, .int .i64 lo, .int .i64 hi] w fun e w' => e = .returned (.bool (wi n lo hi)) ∧ w = w' := by
  by_cases h1 : lo ≤ n <;> by_cases h2 : n ≤ hi
  all_goals
    (have HR : Hid (wi n lo hi = (decide (lo ≤ n) && decide (n ≤ hi))) := rfl
     generalize wi n lo hi = R at *
     simp only [h1, h2, decide_true, decide_false, Bool.and_true, Bool.and_false] at HR
     go_enter Tryz.func13, Tryz.ntmps13
     go_wp2
     go_ret
     exact ⟨ret_b HR.out.symm, rfl⟩)
theorem ausize_any (n : Int) (w : World) (h1 : -4611686018427387904 ≤ n) (h2 : n ≤ 4611686018427387904) : Calls Tryz.prog 16 #[.int .i64 n] w fun e w' => e = .returned (.int .i64 (max n (-n))) ∧ w = w' := by
  have e1 : IntKind.i64.wrap (-n) = -n := by rw [IntKind.wrap_i64]; omega
  have HM : Hid (max n (-n) = if n < -n then -n else n) := by show _ = _; rw [Int.max_def]; split <;> split <;> omega
  have HM2 : Hid (max n (-n) = if n ≤ -n then -n else n) := by show _ = _; rw [Int.max_def]
  generalize hm : max n (-n) = m at *
  have HM3 := Lib.hid hm
  clear hm
  by_cases h : n < -n
  · have HF : Hid (m = -n) := by show _ = _; rw [HM.out, if_pos h]
    have h0 : n ≤ -n := by omega
    go_enter Tryz.func16, Tryz.ntmps16
    go_wp2
    go_ret
    exact ⟨by first | (rw [HF.out]; rfl) | (simp only [Int.max_def]; rw [if_pos h0, HF.out]), rfl⟩
  · have HF : Hid (m = n) := by show _ = _; rw [HM.out, if_neg h]
    go_enter Tryz.func16, Tryz.ntmps16
    go_wp2
    go_ret
    exact ⟨by first | (rw [HF.out]; rfl) | rw [HM3.out, HF.out], rfl⟩
set_option maxRecDepth 100000 in
theorem auwrong_any (x : B5) (w : World) : Calls Tryz.prog 41 #[vBd x] w fun e w' => e = .returned (.bool (!okBi x)) ∧ Grew w w' := by
  obtain ⟨q1, q2, q3, q4, q5⟩ := x
  have HV : Hid (okBi (q1, q2, q3, q4, q5) = (wi q4 1 1048576 && wi q5 1 1073741824)) := rfl
  have C1 := fun w => auwithin_any q4 1 1048576 w
  have C2 := fun w => auwithin_any q5 1 1073741824 w
  generalize okBi (q1, q2, q3, q4, q5) = V at *
  generalize wi q4 1 1048576 = R1 at *
  generalize wi q5 1 1073741824 = R2 at *
  dsimp only [vBd]
  cases R1
  · have HF : Hid ((!V) = true) := by show _ = _; rw [HV.out]; rfl
    clear HV
    go_enter Tryz.func41, Tryz.ntmps41
    go_wp2_with (go_at_call 13; ((with_reducible refine (C1 _).mono ?_); rintro e w1 ⟨rfl, rfl⟩))
    go_ret
    exact ⟨ret_b HF.out.symm, grew_alloc _ _ _⟩
  · have HF : Hid ((!V) = !R2) := by show _ = _; rw [HV.out]; rfl
    clear HV
    go_enter Tryz.func41, Tryz.ntmps41
    go_wp2_with (first
      | (go_at_call 13; ((with_reducible refine (C1 _).mono ?_); rintro e w1 ⟨rfl, rfl⟩))
      | (go_at_call 13; ((with_reducible refine (C2 _).mono ?_); rintro e w1 ⟨rfl, rfl⟩)))
    go_ret
    exact ⟨ret_b HF.out.symm, grew_alloc _ _ _⟩

/-! ### slices.ContainsFunc of bids that may not be -/
theorem anyB_yes {l : List B5} {p : B5 → Bool} {i : Nat} (hi : i < l.length) (h : p (l.getD i bi0) = true) : l.any p = true := List.any_eq_true.2 ⟨_, getD_mem l bi0 i hi, h⟩
theorem anyB_no {l : List B5} {p : B5 → Bool} (h : ∀ i, i < l.length → p (l.getD i bi0) = false) : l.any p = false := by
  rw [← Bool.not_eq_true, List.any_eq_true]
  rintro ⟨x, hx, hp⟩
  obtain ⟨i, hi, rfl⟩ := List.getElem_of_mem hx
  have := h i hi
  rw [getD_at l bi0 i hi, hp] at this
  cases this
def AtB (p : B5 → Bool) (l : List B5) (w : World) (e : Ending) (w' : World) : Prop := ∃ r : Int, (0 ≤ r ↔ l.any p = true) ∧ -1 ≤ r ∧ e = .returned (.int .i64 r) ∧ Grew w w'
def notB (x : B5) : Bool := !okBi x
theorem anyB (l : List B5) : l.any notB = !l.all okBi := by
  rw [List.not_all_eq_any_not]; rfl

set_option maxRecDepth 100000 in
set_option maxHeartbeats 2000000 in
theorem bindex_any (A : Option Addr) (n c : Nat) (l : List B5) (w : World) (h : RowE enB5 w A n l) (hn : n ≤ 1000000) :
    Calls Tryz.prog 72 #[.slice A n c, .func (.func 41) #[] #[]] w (AtB notB l w) := by
  have HI := Lib.hid h
  have HL := Lib.hid h.len
  have CC : ∀ (w' : World) (x : B5), Calls Tryz.prog 41 #[vBd x] w' fun e w2 => e = .returned (.bool (notB x)) ∧ Grew w' w2 := fun w' x => auwrong_any x w'
  clear h
  go_enter Tryz.func72, Tryz.ntmps72
  go_wp2
  go_loopw [8] (fun v wr => ∃ j : Nat, v = .int .i64 j ∧ j ≤ n ∧ Hid (∀ i, i < j → notB (l.getD i bi0) = false) ∧ Hid (Grew w wr)) (fun v _ => n - (intOf v).toNat)
  case atStart => exact ⟨0, rfl, by omega, fun i hi => by omega, grew_refl _⟩
  case round =>
    obtain ⟨j, rfl, hj, HK, HG⟩ := hrel
    by_cases hlt : j < n
    · obtain ⟨b, o, rfl, hb, hc⟩ := (HI.out.keep HG.out).rB5 hlt
      obtain ⟨a0, a1, a2, a3, a4⟩ := hc j hlt
      have CX := fun w' => CC w' (l.getD j bi0)
      have HY1 : Hid (notB (l.getD j bi0) = true → l.any notB = true) := fun h => anyB_yes (by rw [HL.out]; exact hlt) h
      have HK1 : Hid (notB (l.getD j bi0) = false → ∀ i, i < j + 1 → notB (l.getD i bi0) = false) := fun h i hi => by
        rcases Nat.lt_or_ge i j with h1 | h1
        · exact HK.out i h1
        · obtain rfl : i = j := by omega
          exact h
      have i0 : (0 : Int) ≤ (j : Int) := by omega
      have i1 : (j : Int) < (n : Int) := by omega
      clear hc hb CC
      generalize notB (l.getD j bi0) = lv at *
      generalize l.getD j bi0 = x at *
      obtain ⟨q1, q2, q3, q4, q5⟩ := x
      dsimp only at a0 a1 a2 a3 a4 CX
      cases lv
      · have HK2 := Lib.hid (HK1.out rfl)
        clear HY1 HK1 HK
        go_wp2_with ((with_reducible refine (CX _).mono ?_); rintro e w5 ⟨rfl, hg⟩; have HG5 := Lib.hid (grew_trans HG.out hg); clear hg)
        go_roundw
        case rel => exact ⟨j + 1, by go_num, by omega, HK2.out, HG5.out⟩
        case measure => simp only [intOf]; omega
      · have HF := Lib.hid (HY1.out rfl)
        clear HY1 HK1 HK
        go_wp2_with ((with_reducible refine (CX _).mono ?_); rintro e w5 ⟨rfl, hg⟩; have HG5 := Lib.hid (grew_trans HG.out hg); clear hg)
        go_ret
        exact ⟨j, ⟨fun _ => HF.out, fun _ => by omega⟩, by omega, rfl, HG5.out⟩
    · obtain rfl : j = n := by omega
      have HF : Hid (l.any notB = false) := anyB_no (by rw [HL.out]; exact HK.out)
      clear HK
      go_wp2
      go_ret
      exact ⟨-1, ⟨fun h => by omega, fun h => by rw [HF.out] at h; cases h⟩, by omega, rfl, HG.out⟩

theorem bcontains_any (A : Option Addr) (n c : Nat) (l : List B5) (w : World) (h : RowE enB5 w A n l) (hn : n ≤ 1000000) :
    Calls Tryz.prog 40 #[.slice A n c, .func (.func 41) #[] #[]] w fun e w' => e = .returned (.bool (!l.all okBi)) ∧ Grew w w' := by
  have C := bindex_any A n c l w h hn
  clear h hn
  rw [← anyB]
  go_enter Tryz.func40, Tryz.ntmps40
  go_wp2_with (go_at_call 72; ((with_reducible refine C.mono ?_); rintro e w' ⟨r, h1, h2, rfl, hg⟩))
  go_ret
  refine ⟨?_, hg⟩
  by_cases hr : 0 ≤ r
  · rw [h1.1 hr]; simp [hr]
  · have : l.any notB = false := by
      cases hq : l.any notB
      · rfl
      · exact absurd (h1.2 hq) hr
    rw [this]; simp; omega

/-! ### which of two bids stands ahead -/
def cmpB (long : Bool) (a b : B5) : Int := orI (if long then -cmpI a.2.2.2.2 b.2.2.2.2 else cmpI a.2.2.2.2 b.2.2.2.2) (cmpI a.2.2.1 b.2.2.1)
theorem cmpB_lt (long : Bool) (a b : B5) : cmpB long a b < 0 ↔ aheadB long a b = true := by
  unfold cmpB aheadB orI cmpI
  cases long
  · simp only [Bool.false_eq_true, if_false]
    by_cases h : a.2.2.2.2 = b.2.2.2.2
    · rw [if_pos h, decide_eq_true_eq]
      repeat' split
      all_goals omega
    · rw [if_neg h]
      by_cases h2 : a.2.2.2.2 > b.2.2.2.2
      · rw [decide_eq_true h2]
        simp
        repeat' split
        all_goals omega
      · rw [decide_eq_false h2]
        simp
        repeat' split
        all_goals omega
  · simp only [if_true]
    by_cases h : a.2.2.2.2 = b.2.2.2.2
    · rw [if_pos h, decide_eq_true_eq]
      repeat' split
      all_goals omega
    · rw [if_neg h]
      by_cases h2 : a.2.2.2.2 > b.2.2.2.2
      · rw [decide_eq_true h2]
        simp
        repeat' split
        all_goals omega
      · rw [decide_eq_false h2]
        simp
        repeat' split
        all_goals omega
end Go.Proofs.YtahioajpmlochaaGreat.NumK
namespace Go.Proofs.YtahioajpmlochaaGreat.NumK
open Go.RowKit
set_option linter.unusedVariables false

/-- The last number, the trades, the positions. -/
abbrev Bk := Int × List Tr × List Po
abbrev bk0 : Bk := (0, [], [])

def okQ (q : Int) : Bool := wi q (-1099511627776) 1099511627776
theorem okQ_iff (q : Int) : okQ q = true ↔ -1099511627776 ≤ q ∧ q ≤ 1099511627776 := by unfold okQ; rw [wi_iff]
def okPo (x : Po) : Bool := okK (keyP x) && okQ x.2.2.1 && isMoney x.2.2.2 && !(decide (x.2.2.1 = 0) && decide (x.2.2.2 = 0))
theorem okPo_iff (x : Po) : okPo x = true ↔ okK (keyP x) = true ∧ okQ x.2.2.1 = true ∧ isMoney x.2.2.2 = true ∧ ¬ (x.2.2.1 = 0 ∧ x.2.2.2 = 0) := by
  unfold okPo
  simp only [Bool.and_eq_true, Bool.not_eq_true', Bool.and_eq_false_iff, decide_eq_false_iff_not]
  constructor
  · rintro ⟨⟨⟨h1, h2⟩, h3⟩, h4⟩; exact ⟨h1, h2, h3, by omega⟩
  · rintro ⟨h1, h2, h3, h4⟩; exact ⟨⟨⟨h1, h2⟩, h3⟩, by omega⟩
/-- Of each instrument they add up to 0. -/
def flatI (l : List Po) : Bool := (List.range 8).all fun i : Nat => decide (qI l ((i : Int) + 1) = 0)
theorem flatI_iff (l : List Po) : flatI l = true ↔ ∀ n : Int, 1 ≤ n → n ≤ 8 → qI l n = 0 := by
  unfold flatI
  rw [List.all_eq_true]
  constructor
  · intro h n h1 h2
    have := h (n - 1).toNat (List.mem_range.2 (by omega))
    rw [show (((n - 1).toNat : Nat) : Int) + 1 = n by omega] at this
    simpa using this
  · intro h i hi
    have := List.mem_range.1 hi
    simpa using h ((i : Int) + 1) (by omega) (by omega)
def numsT (t : Tr) : Bool := sizedT t && wi t.1.2.1 1 16 && wi t.1.2.2.1 1 16 && !(decide (t.1.2.1 = t.1.2.2.1)) && wi t.1.2.2.2.1 1 8
def okTr (next : Int) (t : Tr) : Bool := numsT t && wi t.1.1 1 next
def rightPs (l : List Po) : Bool := rightL okPo noPo po0 l && flatI l
def rightTs (next : Int) (l : List Tr) : Bool := rightL (okTr next) noTr tr0 l && decide (l.length ≤ 128)
def rightB (b : Bk) : Bool := wi b.1 0 1099511627776 && rightTs b.1 b.2.1 && rightPs b.2.2

theorem rightPs_iff (l : List Po) : rightPs l = true ↔ (∀ x ∈ l, okPo x = true) ∧ Rise noPo l ∧ ∀ n : Int, 1 ≤ n → n ≤ 8 → qI l n = 0 := by
  unfold rightPs
  rw [Bool.and_eq_true, rightL_iff, flatI_iff, and_assoc]
theorem rightB_iff (b : Bk) : rightB b = true ↔ (0 ≤ b.1 ∧ b.1 ≤ 1099511627776) ∧ (((∀ t ∈ b.2.1, okTr b.1 t = true) ∧ Rise noTr b.2.1) ∧ b.2.1.length ≤ 128) ∧ rightPs b.2.2 = true := by
  unfold rightB rightTs
  rw [Bool.and_eq_true, Bool.and_eq_true, Bool.and_eq_true, rightL_iff, wi_iff, decide_eq_true_eq, and_assoc]
theorem numsT_iff (t : Tr) : numsT t = true ↔ sizedT t = true ∧ (1 ≤ t.1.2.1 ∧ t.1.2.1 ≤ 16) ∧ (1 ≤ t.1.2.2.1 ∧ t.1.2.2.1 ≤ 16) ∧ t.1.2.1 ≠ t.1.2.2.1 ∧ 1 ≤ t.1.2.2.2.1 ∧ t.1.2.2.2.1 ≤ 8 := by
  unfold numsT
  simp only [Bool.and_eq_true, wi_iff, Bool.not_eq_true', decide_eq_false_iff_not, and_assoc, ne_eq]

/-! ### adding -/
def okLeg (x : Po) : Bool := okK (keyP x) && okAm x
def addF (l legs : List Po) (k : Ky) : Int × Int := (qK l k + qK legs k, cK l k + cK legs k)
def fits (f : Ky → Int × Int) : Bool := gridK.all fun k => okQ (f k).1 && isMoney (f k).2
theorem fits_iff (f : Ky → Int × Int) : fits f = true ↔ ∀ k, okK k = true → okQ (f k).1 = true ∧ isMoney (f k).2 = true := by
  unfold fits
  rw [List.all_eq_true]
  constructor
  · intro h k hk
    have := h k ((mem_grid k).2 hk)
    rwa [Bool.and_eq_true] at this
  · intro h k hk
    rw [Bool.and_eq_true]
    exact h k ((mem_grid k).1 hk)
def addE (b : Bk) (legs : List Po) : Int := if rightB b then (if legs.all okLeg then (if flatI legs then (if fits (addF b.2.2 legs) then 0 else 1) else 12) else 3) else 14
def addB (b : Bk) (legs : List Po) : Bk := if addE b legs = 0 then (b.1, b.2.1, plA (addF b.2.2 legs)) else bk0
theorem addE_ok {b : Bk} {legs : List Po} : addE b legs = 0 ↔ rightB b = true ∧ legs.all okLeg = true ∧ flatI legs = true ∧ fits (addF b.2.2 legs) = true := by
  unfold addE
  by_cases h1 : rightB b = true
  · rw [if_pos h1]
    by_cases h2 : legs.all okLeg = true
    · rw [if_pos h2]
      by_cases h3 : flatI legs = true
      · rw [if_pos h3]
        by_cases h4 : fits (addF b.2.2 legs) = true
        · rw [if_pos h4]; exact ⟨fun _ => ⟨h1, h2, h3, h4⟩, fun _ => rfl⟩
        · rw [if_neg h4]; exact ⟨fun h => absurd h (by decide), fun h => absurd h.2.2.2 h4⟩
      · rw [if_neg h3]; exact ⟨fun h => absurd h (by decide), fun h => absurd h.2.2.1 h3⟩
    · rw [if_neg h2]; exact ⟨fun h => absurd h (by decide), fun h => absurd h.2.1 h2⟩
  · rw [if_neg h1]; exact ⟨fun h => absurd h (by decide), fun h => absurd h.1 h1⟩
theorem addB_ok {b : Bk} {legs : List Po} (h : addE b legs = 0) : addB b legs = (b.1, b.2.1, plA (addF b.2.2 legs)) := by unfold addB; rw [if_pos h]

theorem right_keys {l : List Po} (h : rightPs l = true) : ∀ x ∈ l, okK (keyP x) = true := fun x hx => ((okPo_iff x).1 (((rightPs_iff l).1 h).1 x hx)).1
theorem right_self {l : List Po} (h : rightPs l = true) : plA (sumK2 l) = l := by
  obtain ⟨h1, h2, h3⟩ := (rightPs_iff l).1 h
  exact pl_self h2 fun x hx => ⟨((okPo_iff x).1 (h1 x hx)).1, ((okPo_iff x).1 (h1 x hx)).2.2.2⟩
theorem who_in {x : Po} (h : okK (keyP x) = true) : 1 ≤ x.1 ∧ x.1 ≤ 16 := ((okK_iff _).1 h).1

theorem qI_pl (f : Ky → Int × Int) (n : Int) (h1 : 1 ≤ n) (h2 : n ≤ 8) : qI (plA f) n = byW (fun k => (f k).1) n := by
  rw [qI_byW _ _ fun x hx => who_in ((mem_pl f x).1 hx).1]
  refine byW_congr fun w w1 w2 => ?_
  have := sum_pl f (w, n) ((okK_iff _).2 ⟨⟨w1, w2⟩, h1, h2⟩)
  exact (Prod.ext_iff.1 this).1
theorem cI_pl (f : Ky → Int × Int) (n : Int) (h1 : 1 ≤ n) (h2 : n ≤ 8) : cI (plA f) n = byW (fun k => (f k).2) n := by
  rw [cI_byW _ _ fun x hx => who_in ((mem_pl f x).1 hx).1]
  refine byW_congr fun w w1 w2 => ?_
  have := sum_pl f (w, n) ((okK_iff _).2 ⟨⟨w1, w2⟩, h1, h2⟩)
  exact (Prod.ext_iff.1 this).2
theorem leg_keys {legs : List Po} (h : legs.all okLeg = true) : ∀ x ∈ legs, okK (keyP x) = true := fun x hx => by
  have := List.all_eq_true.1 h x hx
  unfold okLeg at this
  rw [Bool.and_eq_true] at this
  exact this.1
theorem qI_add {l legs : List Po} (hl : ∀ x ∈ l, okK (keyP x) = true) (hg : ∀ x ∈ legs, okK (keyP x) = true) (n : Int) (h1 : 1 ≤ n) (h2 : n ≤ 8) : qI (plA (addF l legs)) n = qI l n + qI legs n := by
  rw [qI_pl _ n h1 h2, qI_byW l n fun x hx => who_in (hl x hx), qI_byW legs n fun x hx => who_in (hg x hx), ← byW_add]
  rfl
theorem cI_add {l legs : List Po} (hl : ∀ x ∈ l, okK (keyP x) = true) (hg : ∀ x ∈ legs, okK (keyP x) = true) (n : Int) (h1 : 1 ≤ n) (h2 : n ≤ 8) : cI (plA (addF l legs)) n = cI l n + cI legs n := by
  rw [cI_pl _ n h1 h2, cI_byW l n fun x hx => who_in (hl x hx), cI_byW legs n fun x hx => who_in (hg x hx), ← byW_add]
  rfl
theorem right_addP {l legs : List Po} (hl : rightPs l = true) (hg : legs.all okLeg = true) (hf : flatI legs = true) (h : fits (addF l legs) = true) : rightPs (plA (addF l legs)) = true := by
  have h3 := ((rightPs_iff l).1 hl).2.2
  refine (rightPs_iff _).2 ⟨fun x hx => ?_, rise_pl _, fun n h1 h2 => ?_⟩
  · obtain ⟨h4, h5, h6⟩ := (mem_pl _ x).1 hx
    have h7 := (fits_iff _).1 h _ h4
    rw [h5] at h7
    exact (okPo_iff x).2 ⟨h4, h7.1, h7.2, h6⟩
  · rw [qI_add (right_keys hl) (leg_keys hg) n h1 h2, h3 n h1 h2, (flatI_iff legs).1 hf n h1 h2]; rfl
theorem right_add {b : Bk} {legs : List Po} (h : addE b legs = 0) : rightB (addB b legs) = true := by
  obtain ⟨h1, h2, h3, h4⟩ := addE_ok.1 h
  rw [addB_ok h]
  obtain ⟨g1, g2, g3⟩ := (rightB_iff b).1 h1
  exact (rightB_iff _).2 ⟨g1, g2, right_addP g3 h2 h3 h4⟩

/-! ### the legs of a trade -/
theorem qI_two (t : Tr) (n m : Int) : qI (twoL t n) m = 0 := by
  show qI [_, _] m = 0
  rw [qI_cons, qI_cons, qI_nil]
  unfold isI
  simp only
  split <;> omega
theorem cI_two (t : Tr) (n m : Int) : cI (twoL t n) m = 0 := by
  show cI [_, _] m = 0
  rw [cI_cons, cI_cons, cI_nil]
  unfold isI
  simp only [Int.neg_mul]
  split <;> omega
theorem qI_legs (t : Tr) (back : Bool) (m : Int) : qI (legsT t back) m = 0 := by
  unfold legsT
  split
  · exact qI_two t _ m
  · rfl
theorem cI_legs (t : Tr) (back : Bool) (m : Int) : cI (legsT t back) m = 0 := by
  unfold legsT
  split
  · exact cI_two t _ m
  · rfl
theorem legs_flatI (t : Tr) (back : Bool) : flatI (legsT t back) = true := (flatI_iff _).2 fun n _ _ => qI_legs t back n
theorem nums_legs {t : Tr} (h : numsT t = true) (back : Bool) : legsT t back = twoL t (if back then -t.1.2.2.2.2.1 else t.1.2.2.2.2.1) := by
  unfold legsT; rw [if_pos ((numsT_iff t).1 h).1]
/-- Within so much. -/
def wm (n m : Int) : Prop := -m ≤ n ∧ n ≤ m
theorem two_small {t : Tr} (h : numsT t = true) {n : Int} (hn : n = t.1.2.2.2.2.1 ∨ n = -t.1.2.2.2.2.1) : wm n 1048576 ∧ wm (n * t.1.2.2.2.2.2) 1125899906842624 := by
  have h2 := (sizedT_iff t).1 ((numsT_iff t).1 h).1
  have h3 := mul_in _ _ h2
  unfold wm
  rcases hn with rfl | rfl
  · omega
  · rw [Int.neg_mul]; omega
theorem legs_ok {t : Tr} (h : numsT t = true) (back : Bool) : (legsT t back).all okLeg = true := by
  have hk := (numsT_iff t).1 h
  obtain ⟨s1, s2⟩ := two_small h (n := if back then -t.1.2.2.2.2.1 else t.1.2.2.2.2.1) (by cases back <;> simp)
  rw [nums_legs h]
  generalize (if back then -t.1.2.2.2.2.1 else t.1.2.2.2.2.1) = n at *
  unfold wm at s1 s2
  rw [List.all_eq_true]
  intro x hx
  unfold okLeg okAm
  rw [Bool.and_eq_true, Bool.and_eq_true, okK_iff, isMoney_iff, isMoney_iff]
  unfold twoL at hx
  rcases List.mem_cons.1 hx with rfl | hx
  · refine ⟨⟨hk.2.1, hk.2.2.2.2⟩, ?_, ?_⟩ <;> simp only <;> omega
  · rcases List.mem_cons.1 hx with rfl | hx
    · refine ⟨⟨hk.2.2.1, hk.2.2.2.2⟩, ?_, ?_⟩
      · simp only; omega
      · simp only [Int.neg_mul]; omega
    · cases hx
def sideB (t : Tr) (k : Ky) : Bool := isK k (t.1.2.1, t.1.2.2.2.1, 0, 0)
def sideS (t : Tr) (k : Ky) : Bool := isK k (t.1.2.2.1, t.1.2.2.2.1, 0, 0)
theorem qK_two (t : Tr) (m : Int) (k : Ky) : qK (twoL t m) k = (if sideB t k then m else 0) + ((if sideS t k then -m else 0) + 0) := by
  show qK [_, _] k = _
  rw [qK_cons, qK_cons, qK_nil]; rfl
theorem cK_two (t : Tr) (m : Int) (k : Ky) : cK (twoL t m) k = (if sideB t k then m * t.1.2.2.2.2.2 else 0) + ((if sideS t k then -m * t.1.2.2.2.2.2 else 0) + 0) := by
  show cK [_, _] k = _
  rw [cK_cons, cK_cons, cK_nil]; rfl
theorem sides_two {t : Tr} (h : numsT t = true) (k : Ky) : ¬ (sideB t k = true ∧ sideS t k = true) := by
  have hk := (numsT_iff t).1 h
  rintro ⟨h1, h2⟩
  unfold sideB at h1
  unfold sideS at h2
  rw [isK_iff] at h1 h2
  have := h1.trans h2.symm
  unfold keyP at this
  simp only [Prod.mk.injEq] at this
  exact hk.2.2.2.1 this.1
theorem qK_small {t : Tr} (h : numsT t = true) (back : Bool) (k : Ky) : wm (qK (legsT t back) k) 1048576 ∧ wm (cK (legsT t back) k) 1125899906842624 := by
  obtain ⟨s1, s2⟩ := two_small h (n := if back then -t.1.2.2.2.2.1 else t.1.2.2.2.2.1) (by cases back <;> simp)
  have hne := sides_two h k
  rw [nums_legs h, qK_two, cK_two]
  generalize (if back then -t.1.2.2.2.2.1 else t.1.2.2.2.2.1) = n at *
  rw [Int.neg_mul]
  generalize n * t.1.2.2.2.2.2 = c at *
  generalize sideB t k = x at *
  generalize sideS t k = y at *
  unfold wm at *
  cases x <;> cases y <;> simp at * <;> omega
/-- Only what a trade says beside its number counts. -/
def bare (t : Tr) : Int × Int × Int × Int × Int := t.1.2
theorem legs_bare {t u : Tr} (h : t.1.2 = u.1.2) (back : Bool) : legsT t back = legsT u back := by
  unfold legsT sizedT twoL
  rw [h]
theorem nums_bare {t u : Tr} (h : t.1.2 = u.1.2) : numsT t = numsT u := by
  unfold numsT sizedT
  rw [h]
end Go.Proofs.YtahioajpmlochaaGreat.NumK
namespace Go.Proofs.YtahioajpmlochaaGreat.NumK
open Go.RowKit
set_option linter.unusedVariables false

/-- The trade as it stands in the book. -/
def asNo (t : Tr) (n : Int) : Tr := ((n, t.1.2), false)
def enterE (b : Bk) (t : Tr) : Int := if rightB b then (if numsT t then (if 128 ≤ b.2.1.length then 9 else (if b.1 = 1099511627776 then 1 else addE b (legsT t false))) else 3) else 14
def enterB (b : Bk) (t : Tr) : Bk := if enterE b t = 0 then (b.1 + 1, b.2.1 ++ [asNo t (b.1 + 1)], plA (addF b.2.2 (legsT t false))) else bk0
def enterN (b : Bk) (t : Tr) : Int := if enterE b t = 0 then b.1 + 1 else 0
theorem enterE_ok {b : Bk} {t : Tr} : enterE b t = 0 ↔ rightB b = true ∧ numsT t = true ∧ b.2.1.length < 128 ∧ b.1 ≠ 1099511627776 ∧ addE b (legsT t false) = 0 := by
  unfold enterE
  by_cases h1 : rightB b = true
  · rw [if_pos h1]
    by_cases h2 : numsT t = true
    · rw [if_pos h2]
      by_cases h3 : 128 ≤ b.2.1.length
      · rw [if_pos h3]; exact ⟨fun h => absurd h (by decide), fun h => absurd h.2.2.1 (by omega)⟩
      · rw [if_neg h3]
        by_cases h4 : b.1 = 1099511627776
        · rw [if_pos h4]; exact ⟨fun h => absurd h (by decide), fun h => absurd h4 h.2.2.2.1⟩
        · rw [if_neg h4]; exact ⟨fun h => ⟨h1, h2, by omega, h4, h⟩, fun h => h.2.2.2.2⟩
    · rw [if_neg h2]; exact ⟨fun h => absurd h (by decide), fun h => absurd h.2.1 h2⟩
  · rw [if_neg h1]; exact ⟨fun h => absurd h (by decide), fun h => absurd h.1 h1⟩
theorem enterB_ok {b : Bk} {t : Tr} (h : enterE b t = 0) : enterB b t = (b.1 + 1, b.2.1 ++ [asNo t (b.1 + 1)], plA (addF b.2.2 (legsT t false))) := by unfold enterB; rw [if_pos h]
theorem enterN_ok {b : Bk} {t : Tr} (h : enterE b t = 0) : enterN b t = b.1 + 1 := by unfold enterN; rw [if_pos h]

/-- A trade with that number that is not off. -/
def liveT (no : Int) (t : Tr) : Bool := decide (t.1.1 = no) && !t.2
theorem liveT_iff (no : Int) (t : Tr) : liveT no t = true ↔ t.1.1 = no ∧ t.2 = false := by unfold liveT; simp
def theT (l : List Tr) (no : Int) : Tr := (l.find? (liveT no)).getD tr0
def offT (no : Int) (t : Tr) : Tr := if liveT no t then (t.1, true) else t
def offL (l : List Tr) (no : Int) : List Tr := l.map (offT no)
def cancelE (b : Bk) (no : Int) : Int := if rightB b then (if b.2.1.any (liveT no) then addE b (legsT (theT b.2.1 no) true) else 10) else 14
def cancelB (b : Bk) (no : Int) : Bk := if cancelE b no = 0 then (b.1, offL b.2.1 no, plA (addF b.2.2 (legsT (theT b.2.1 no) true))) else bk0
theorem cancelE_ok {b : Bk} {no : Int} : cancelE b no = 0 ↔ rightB b = true ∧ b.2.1.any (liveT no) = true ∧ addE b (legsT (theT b.2.1 no) true) = 0 := by
  unfold cancelE
  by_cases h1 : rightB b = true
  · rw [if_pos h1]
    by_cases h2 : b.2.1.any (liveT no) = true
    · rw [if_pos h2]; exact ⟨fun h => ⟨h1, h2, h⟩, fun h => h.2.2⟩
    · rw [if_neg h2]; exact ⟨fun h => absurd h (by decide), fun h => absurd h.2.1 h2⟩
  · rw [if_neg h1]; exact ⟨fun h => absurd h (by decide), fun h => absurd h.1 h1⟩
theorem cancelB_ok {b : Bk} {no : Int} (h : cancelE b no = 0) : cancelB b no = (b.1, offL b.2.1 no, plA (addF b.2.2 (legsT (theT b.2.1 no) true))) := by unfold cancelB; rw [if_pos h]
theorem the_live {l : List Tr} {no : Int} (h : l.any (liveT no) = true) : theT l no ∈ l ∧ liveT no (theT l no) = true := by
  rw [List.any_eq_true] at h
  obtain ⟨x, hx, hl⟩ := h
  unfold theT
  cases e : l.find? (liveT no) with
  | none => rw [List.find?_eq_none] at e; exact absurd hl (e x hx)
  | some y => exact ⟨List.mem_of_find?_eq_some e, List.find?_some e⟩
theorem off_bare (no : Int) (t : Tr) : (offT no t).1 = t.1 := by unfold offT; split <;> rfl
theorem off_len (l : List Tr) (no : Int) : (offL l no).length = l.length := by unfold offL; rw [List.length_map]
theorem okTr_off (n no : Int) (t : Tr) : okTr n (offT no t) = okTr n t := by
  unfold okTr
  rw [off_bare, nums_bare (t := offT no t) (u := t) (by rw [off_bare])]
theorem rise_off {l : List Tr} (h : Rise noTr l) (no : Int) : Rise noTr (offL l no) := by
  unfold Rise offL
  rw [List.pairwise_map]
  refine List.Pairwise.imp (fun {a b} hab => ?_) h
  show (offT no a).1.1 < (offT no b).1.1
  rw [off_bare, off_bare]; exact hab

/-- Then enter the same at other terms. -/
def termsT (t : Tr) (q p : Int) : Tr := ((t.1.1, t.1.2.1, t.1.2.2.1, t.1.2.2.2.1, q, p), t.2)
def corrE (b : Bk) (no q p : Int) : Int := if cancelE b no = 0 then enterE (cancelB b no) (termsT (theT b.2.1 no) q p) else cancelE b no
def corrB (b : Bk) (no q p : Int) : Bk := if cancelE b no = 0 then enterB (cancelB b no) (termsT (theT b.2.1 no) q p) else bk0
def corrN (b : Bk) (no q p : Int) : Int := if cancelE b no = 0 then enterN (cancelB b no) (termsT (theT b.2.1 no) q p) else 0
def clearB (b : Bk) : Bk := (b.1, [], b.2.2)

/-! ### what is right stays so -/
theorem right_enter {b : Bk} {t : Tr} (h : enterE b t = 0) : rightB (enterB b t) = true := by
  obtain ⟨h1, h2, h3, h4, h5⟩ := enterE_ok.1 h
  rw [enterB_ok h]
  obtain ⟨g1, ⟨⟨g2, g3⟩, g4⟩, g5⟩ := (rightB_iff b).1 h1
  obtain ⟨_, a2, a3, a4⟩ := addE_ok.1 h5
  refine (rightB_iff _).2 ⟨by simp only; omega, ⟨⟨fun x hx => ?_, ?_⟩, ?_⟩, right_addP g5 a2 a3 a4⟩
  · simp only at hx ⊢
    rcases List.mem_append.1 hx with hx | hx
    · have := g2 x hx
      unfold okTr at this ⊢
      rw [Bool.and_eq_true, wi_iff] at this ⊢
      exact ⟨this.1, this.2.1, by omega⟩
    · obtain rfl := List.mem_singleton.1 hx
      unfold okTr
      rw [Bool.and_eq_true, wi_iff]
      refine ⟨by rw [nums_bare (t := asNo t (b.1 + 1)) (u := t) rfl]; exact h2, ?_⟩
      show 1 ≤ b.1 + 1 ∧ b.1 + 1 ≤ b.1 + 1
      omega
  · simp only
    unfold Rise
    rw [List.pairwise_append]
    refine ⟨g3, by simp, fun x hx y hy => ?_⟩
    obtain rfl := List.mem_singleton.1 hy
    have := g2 x hx
    unfold okTr at this
    rw [Bool.and_eq_true, wi_iff] at this
    show x.1.1 < b.1 + 1
    omega
  · simp only [List.length_append, List.length_cons, List.length_nil]; omega
theorem right_cancel {b : Bk} {no : Int} (h : cancelE b no = 0) : rightB (cancelB b no) = true := by
  obtain ⟨h1, h2, h3⟩ := cancelE_ok.1 h
  rw [cancelB_ok h]
  obtain ⟨g1, ⟨⟨g2, g3⟩, g4⟩, g5⟩ := (rightB_iff b).1 h1
  obtain ⟨_, a2, a3, a4⟩ := addE_ok.1 h3
  refine (rightB_iff _).2 ⟨g1, ⟨⟨fun x hx => ?_, rise_off g3 no⟩, by simp only; rw [off_len]; exact g4⟩, right_addP g5 a2 a3 a4⟩
  obtain ⟨t, ht, rfl⟩ := List.mem_map.1 hx
  rw [okTr_off]; exact g2 t ht
theorem right_clear {b : Bk} (h : rightB b = true) : rightB (clearB b) = true := by
  obtain ⟨g1, ⟨⟨g2, g3⟩, g4⟩, g5⟩ := (rightB_iff b).1 h
  exact (rightB_iff _).2 ⟨g1, ⟨⟨fun x hx => absurd hx (by simp [clearB]), List.Pairwise.nil⟩, by simp [clearB]⟩, g5⟩
theorem right_zero : rightB bk0 = true := by decide +kernel

/-- Costs add up to 0, too; and few have been entered. -/
structure GB (b : Bk) (k : Nat) : Prop where
  right : rightB b = true
  cost : ∀ n : Int, 1 ≤ n → n ≤ 8 → cI b.2.2 n = 0
  next : b.1 ≤ k
theorem GB.poss {b : Bk} {k : Nat} (h : GB b k) : rightPs b.2.2 = true := ((rightB_iff b).1 h.right).2.2
theorem GB.zero : GB bk0 0 := ⟨right_zero, fun _ _ _ => rfl, by decide⟩
theorem GB.mono {b : Bk} {k m : Nat} (h : GB b k) (hm : k ≤ m) : GB b m := ⟨h.right, h.cost, by have := h.next; omega⟩
theorem cost_add {l legs : List Po} (hl : rightPs l = true) (hg : legs.all okLeg = true) (h1 : ∀ n : Int, 1 ≤ n → n ≤ 8 → cI l n = 0) (h2 : ∀ n, cI legs n = 0) : ∀ n : Int, 1 ≤ n → n ≤ 8 → cI (plA (addF l legs)) n = 0 := fun n n1 n2 => by
  rw [cI_add (right_keys hl) (leg_keys hg) n n1 n2, h1 n n1 n2, h2 n]; rfl
theorem GB.enter {b : Bk} {k : Nat} {t : Tr} (h : GB b k) (he : enterE b t = 0) : GB (enterB b t) (k + 1) := by
  obtain ⟨h1, h2, h3, h4, h5⟩ := enterE_ok.1 he
  obtain ⟨_, a2, a3, a4⟩ := addE_ok.1 h5
  refine ⟨right_enter he, ?_, ?_⟩
  · rw [enterB_ok he]; exact cost_add h.poss a2 h.cost fun n => cI_legs t false n
  · rw [enterB_ok he]; have := h.next; simp only; omega
theorem GB.cancel {b : Bk} {k : Nat} {no : Int} (h : GB b k) (he : cancelE b no = 0) : GB (cancelB b no) k := by
  obtain ⟨h1, h2, h3⟩ := cancelE_ok.1 he
  obtain ⟨_, a2, a3, a4⟩ := addE_ok.1 h3
  refine ⟨right_cancel he, ?_, ?_⟩
  · rw [cancelB_ok he]; exact cost_add h.poss a2 h.cost fun n => cI_legs _ true n
  · rw [cancelB_ok he]; exact h.next
theorem GB.corr {b : Bk} {k : Nat} {no q p : Int} (h : GB b k) (he : corrE b no q p = 0) : GB (corrB b no q p) (k + 1) := by
  unfold corrE at he
  unfold corrB
  by_cases hc : cancelE b no = 0
  · rw [if_pos hc] at he ⊢; exact (h.cancel hc).enter he
  · rw [if_neg hc] at he; exact absurd he hc
theorem GB.clear {b : Bk} {k : Nat} (h : GB b k) : GB (clearB b) k := ⟨right_clear h.right, h.cost, h.next⟩

/-- The sums of an instrument's positions. -/
def bothOK (l : List Po) (n : Int) : Bool := (l.filter (isI n)).all okAm && (isMoney (qI l n) && isMoney (cI l n))
def bothQ (l : List Po) (n : Int) : Int := if bothOK l n then qI l n else 0
def bothC (l : List Po) (n : Int) : Int := if bothOK l n then cI l n else 0
theorem GB.both {b : Bk} {k : Nat} (h : GB b k) (n : Int) (n1 : 1 ≤ n) (n2 : n ≤ 8) : bothQ b.2.2 n = 0 ∧ bothC b.2.2 n = 0 := by
  unfold bothQ bothC
  rw [((rightPs_iff _).1 h.poss).2.2 n n1 n2, h.cost n n1 n2]
  constructor <;> split <;> rfl

/-! ### there and back -/
theorem fits_congr {f g : Ky → Int × Int} (h : ∀ k, okK k = true → f k = g k) : fits f = fits g := by
  rw [Bool.eq_iff_iff, fits_iff, fits_iff]
  constructor
  · intro h2 k hk; rw [← h k hk]; exact h2 k hk
  · intro h2 k hk; rw [h k hk]; exact h2 k hk
theorem sum_add (l legs : List Po) (k : Ky) (hk : okK k = true) : qK (plA (addF l legs)) k = qK l k + qK legs k ∧ cK (plA (addF l legs)) k = cK l k + cK legs k := by
  have := sum_pl (addF l legs) k hk
  unfold sumK2 addF at this
  simp only [Prod.mk.injEq] at this
  exact this
end Go.Proofs.YtahioajpmlochaaGreat.NumK
namespace Go.Proofs.YtahioajpmlochaaGreat.NumK
open Go.RowKit
set_option linter.unusedVariables false

/-! ### parts -/
theorem okPo_leg {x : Po} (h : okPo x = true) : okLeg x = true := by
  obtain ⟨h1, h2, h3, h4⟩ := (okPo_iff x).1 h
  unfold okLeg okAm
  rw [h1, h3, (isMoney_iff _).2 (by have := (okQ_iff _).1 h2; omega)]; rfl
theorem right_legs {l : List Po} (h : rightPs l = true) : l.all okLeg = true := List.all_eq_true.2 fun x hx => okPo_leg (((rightPs_iff l).1 h).1 x hx)
theorem of_right {l : List Po} (h : rightPs l = true) (k : Ky) : ofP l k = (k.1, k.2, qK l k, cK l k) := of_sum ((rightPs_iff l).1 h).2.1 (right_keys h) k
theorem of_self {l : List Po} (h : rightPs l = true) {x : Po} (hx : x ∈ l) : qK l (keyP x) = x.2.2.1 ∧ cK l (keyP x) = x.2.2.2 := by
  have := sum_of_mem ((rightPs_iff l).1 h).2.1 (right_keys h) hx
  unfold sumK2 at this
  simpa using this
/-! ### entered one behind the other -/
def entS (b : Bk) (t : Tr) : Bk := if enterE b t = 0 then enterB b t else b
def entL (l : List Tr) : Bk := l.foldl entS bk0
def legsOf (l : List Tr) : List Po := (l.filter numsT).flatMap fun t => legsT t false
theorem legsOf_app (l m : List Tr) : legsOf (l ++ m) = legsOf l ++ legsOf m := by unfold legsOf; rw [List.filter_append, List.flatMap_append]
theorem legsOf_one {t : Tr} (h : numsT t = true) : legsOf [t] = legsT t false := by unfold legsOf; simp [h]
theorem legsOf_no {t : Tr} (h : numsT t = false) : legsOf [t] = [] := by unfold legsOf; simp [h]
def cntT (l : List Tr) : Nat := (l.filter numsT).length
theorem cnt_app (l m : List Tr) : cntT (l ++ m) = cntT l + cntT m := by unfold cntT; rw [List.filter_append, List.length_append]
theorem small_legs : ∀ (l : List Tr) (k : Ky), wm (qK (legsOf l) k) (l.length * 1048576) ∧ wm (cK (legsOf l) k) (l.length * 1125899906842624)
  | [], k => by unfold wm; exact ⟨by simp [legsOf, qK_nil], by simp [legsOf, cK_nil]⟩
  | t :: l, k => by
    obtain ⟨h1, h2⟩ := small_legs l k
    have e : legsOf (t :: l) = legsOf [t] ++ legsOf l := legsOf_app [t] l
    rw [e, qK_app, cK_app, List.length_cons]
    unfold wm at *
    by_cases h : numsT t = true
    · obtain ⟨s1, s2⟩ := qK_small h false k
      unfold wm at s1 s2
      rw [legsOf_one h]
      omega
    · rw [legsOf_no (by simpa using h), qK_nil, cK_nil]
      omega
/-- What stands behind them. -/
structure EntP (l : List Tr) (b : Bk) : Prop where
  right : rightB b = true
  next : b.1 = cntT l
  len : b.2.1.length = cntT l
  poss : b.2.2 = plA (sumK2 (legsOf l))
theorem EntP.nil : EntP [] bk0 := ⟨right_zero, rfl, rfl, by decide +kernel⟩
theorem ent_add (l m : List Po) : ∀ k, okK k = true → addF (plA (sumK2 l)) m k = sumK2 (l ++ m) k := fun k hk => by
  have := sum_pl (sumK2 l) k hk
  unfold sumK2 at this ⊢
  simp only [Prod.mk.injEq] at this
  unfold addF
  rw [qK_app, cK_app, this.1, this.2]
theorem fits_small {f : Ky → Int × Int} (h : ∀ k, wm (f k).1 (1000 * 1048576) ∧ wm (f k).2 (1000 * 1125899906842624)) : fits f = true := (fits_iff f).2 fun k _ => by
  obtain ⟨h1, h2⟩ := h k
  unfold wm at h1 h2
  rw [okQ_iff, isMoney_iff]
  omega
theorem EntP.may {l : List Tr} {b : Bk} (h : EntP l b) (hl : l.length ≤ 400) {t : Tr} (ht : numsT t = true) (hc : cntT l < 128) : enterE b t = 0 := by
  have hn := h.next
  have hlen := h.len
  refine enterE_ok.2 ⟨h.right, ht, by omega, by omega, addE_ok.2 ⟨h.right, legs_ok ht false, legs_flatI t false, ?_⟩⟩
  rw [h.poss, fits_congr (ent_add _ _)]
  refine fits_small fun k => ?_
  obtain ⟨a1, a2⟩ := small_legs l k
  obtain ⟨b1, b2⟩ := qK_small ht false k
  unfold sumK2
  simp only
  rw [qK_app, cK_app]
  unfold wm at *
  omega
theorem EntP.step {l : List Tr} {b : Bk} (h : EntP l b) {t : Tr} (he : enterE b t = 0) : EntP (l ++ [t]) (enterB b t) := by
  obtain ⟨h1, h2, h3, h4, h5⟩ := enterE_ok.1 he
  have hr := right_enter he
  rw [enterB_ok he] at hr ⊢
  have e1 : cntT [t] = 1 := by unfold cntT; simp [h2]
  refine ⟨hr, ?_, ?_, ?_⟩
  · show b.1 + 1 = _
    rw [h.next, cnt_app, e1]; omega
  · show (b.2.1 ++ [_]).length = _
    rw [List.length_append, h.len, cnt_app, e1]; rfl
  · show plA _ = _
    rw [legsOf_app, legsOf_one h2, h.poss]
    exact pl_congr (ent_add _ _)
theorem EntP.skip {l : List Tr} {b : Bk} (h : EntP l b) {t : Tr} (ht : numsT t = false) : EntP (l ++ [t]) b := by
  have e1 : cntT [t] = 0 := by unfold cntT; simp [ht]
  refine ⟨h.right, by rw [h.next, cnt_app, e1]; omega, by rw [h.len, cnt_app, e1, Nat.add_zero], by rw [h.poss, legsOf_app, legsOf_no ht, List.append_nil]⟩
/-! ### a book that is full -/
structure FullP (t : Tr) (i : Nat) (b : Bk) : Prop where
  ent : EntP (List.replicate i t) b
  trades : b.2.1 = (List.range i).map fun j : Nat => asNo t ((j : Int) + 1)
theorem FullP.zero (t : Tr) : FullP t 0 bk0 := ⟨EntP.nil, rfl⟩
theorem cnt_rep {t : Tr} (ht : numsT t = true) (i : Nat) : cntT (List.replicate i t) = i := by unfold cntT; rw [List.filter_replicate, ht]; simp
theorem FullP.may {t : Tr} {i : Nat} {b : Bk} (h : FullP t i b) (ht : numsT t = true) (hi : i < 128) : enterE b t = 0 ∧ enterN b t = (i : Int) + 1 ∧ FullP t (i + 1) (enterB b t) := by
  have he := h.ent.may (by rw [List.length_replicate]; omega) ht (by rw [cnt_rep ht]; exact hi)
  have hn := h.ent.next
  rw [cnt_rep ht] at hn
  refine ⟨he, by rw [enterN_ok he, hn], ?_, ?_⟩
  · have := h.ent.step he
    rw [show List.replicate (i + 1) t = List.replicate i t ++ [t] from List.replicate_succ']
    exact this
  · rw [enterB_ok he]
    show b.2.1 ++ [asNo t (b.1 + 1)] = _
    rw [h.trades, hn, List.range_succ, List.map_append]; rfl
theorem FullP.full {t : Tr} {b : Bk} (h : FullP t 128 b) (ht : numsT t = true) (u : Tr) (hu : numsT u = true) : enterE b u = 9 := by
  have hl := h.ent.len
  rw [cnt_rep ht] at hl
  unfold enterE
  rw [if_pos h.ent.right, if_pos hu, if_pos (by omega)]
theorem FullP.corr {t : Tr} {b : Bk} (h : FullP t 128 b) (ht : numsT t = true) (no : Int) (n1 : 1 ≤ no) (n2 : no ≤ 128) : corrE b no t.1.2.2.2.2.1 t.1.2.2.2.2.2 = 9 := by
  have hl := h.ent.len
  rw [cnt_rep ht] at hl
  have hm : asNo t no ∈ b.2.1 := by
    rw [h.trades, List.mem_map]
    exact ⟨(no - 1).toNat, List.mem_range.2 (by omega), by rw [show (((no - 1).toNat : Nat) : Int) + 1 = no by omega]⟩
  have ha : b.2.1.any (liveT no) = true := List.any_eq_true.2 ⟨_, hm, (liveT_iff _ _).2 ⟨rfl, rfl⟩⟩
  obtain ⟨t1, t2⟩ := the_live ha
  have hb : (theT b.2.1 no).1.2 = t.1.2 := by
    rw [h.trades, List.mem_map] at t1
    obtain ⟨j, _, e⟩ := t1
    rw [← h.trades] at e
    rw [← e]; rfl
  have hleg : legsT (theT b.2.1 no) true = legsT t true := legs_bare hb true
  have hc : cancelE b no = 0 := by
    refine cancelE_ok.2 ⟨h.ent.right, ha, addE_ok.2 ⟨h.ent.right, ?_, ?_, ?_⟩⟩
    · rw [hleg]; exact legs_ok ht true
    · rw [hleg]; exact legs_flatI t true
    · rw [hleg, h.ent.poss, fits_congr (ent_add _ _)]
      refine fits_small fun k => ?_
      obtain ⟨a1, a2⟩ := small_legs (List.replicate 128 t) k
      obtain ⟨b1, b2⟩ := qK_small ht true k
      rw [List.length_replicate] at a1 a2
      unfold sumK2
      simp only
      rw [qK_app, cK_app]
      unfold wm at *
      omega
  have hr := right_cancel hc
  unfold corrE
  rw [if_pos hc]
  unfold enterE
  rw [if_pos hr, if_pos]
  · rw [if_pos]
    rw [cancelB_ok hc]
    simp only
    rw [off_len]; omega
  · rw [nums_bare (u := t)]
    · exact ht
    · show (_, _, _, _, _) = _
      rw [hb]
theorem FullP.clear {t : Tr} {b : Bk} (h : FullP t 128 b) (ht : numsT t = true) : enterE (clearB b) t = 0 ∧ enterN (clearB b) t = 129 ∧ (enterB (clearB b) t).2.1.length = 1 := by
  have hn := h.ent.next
  rw [cnt_rep ht] at hn
  have hr := right_clear h.ent.right
  have he : enterE (clearB b) t = 0 := by
    refine enterE_ok.2 ⟨hr, ht, by simp [clearB], by show b.1 ≠ _; omega, addE_ok.2 ⟨hr, legs_ok ht false, legs_flatI t false, ?_⟩⟩
    show fits (addF b.2.2 _) = true
    rw [h.ent.poss, fits_congr (ent_add _ _)]
    refine fits_small fun k => ?_
    obtain ⟨a1, a2⟩ := small_legs (List.replicate 128 t) k
    obtain ⟨b1, b2⟩ := qK_small ht false k
    rw [List.length_replicate] at a1 a2
    unfold sumK2
    simp only
    rw [qK_app, cK_app]
    unfold wm at *
    omega
  refine ⟨he, ?_, ?_⟩
  · rw [enterN_ok he]; show b.1 + 1 = 129; omega
  · rw [enterB_ok he]; rfl
end Go.Proofs.YtahioajpmlochaaGreat.NumK
