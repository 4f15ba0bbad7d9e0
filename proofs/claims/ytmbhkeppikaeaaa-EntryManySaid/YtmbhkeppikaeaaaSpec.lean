/- What the cells of an argument read as, by the shape of its type; the shape is opened from the law's hypothesis once, for all types. -/
import Derived.Test.YtmbhkeppikaeaaaBase
import Derived.OpenShut
import Derived.ChangeArms
import Derived.Deep.Slices
namespace Go.Proofs.Ytmbhkeppikaeaaa.NumK
open Go.RowKit

/-- How many cells, and what they read as in a world; what is read stays where the world only grows. -/
structure Sp (α : Type) where
  size : Nat
  rd : World → List Value → α → Prop
  len : ∀ {w : World} {cs : List Value} {a : α}, rd w cs a → cs.length = size
  keep : ∀ {w w' : World} {cs : List Value} {a : α}, rd w cs a → Grew w w' → rd w' cs a

def spInt (k : IntKind) : Sp Int := ⟨1, fun _ cs n => cs = [.int k n] ∧ (Lit.int k n).wf = true, fun h => by rw [h.1]; rfl, fun h _ => h⟩
def spBool : Sp Bool := ⟨1, fun _ cs b => cs = [.bool b], fun h => by rw [h]; rfl, fun h _ => h⟩
def spStr : Sp ByteArray := ⟨1, fun _ cs s => cs = [.string s] ∧ s.size ≤ maxLen, fun h => by rw [h.1]; rfl, fun h _ => h⟩
def spPair {α β : Type} (A : Sp α) (B : Sp β) : Sp (α × β) :=
  ⟨A.size + B.size, fun w cs p => ∃ c1 c2, cs = c1 ++ c2 ∧ A.rd w c1 p.1 ∧ B.rd w c2 p.2,
    fun ⟨_, _, e, h1, h2⟩ => by rw [e, List.length_append, A.len h1, B.len h2],
    fun ⟨c1, c2, e, h1, h2⟩ g => ⟨c1, c2, e, A.keep h1 g, B.keep h2 g⟩⟩

theorem addr_add (b o k : Nat) : (⟨b, o, none⟩ : Addr).add k = ⟨b, o + k, none⟩ := by unfold Addr.add; split <;> simp_all

/-- A slice's elements, wherever they lie. -/
def Row {α : Type} (A : Sp α) (w : World) (ad : Option Addr) (n : Nat) (l : List α) : Prop :=
  l.length = n ∧ (0 < n → ∃ b o, ad = some ⟨b, o, none⟩ ∧ b < w.heap.size ∧ ∀ j (h : j < l.length), ∃ cs, A.rd w cs l[j] ∧ ∀ i, i < A.size → w.cell? ⟨b, o + j * A.size + i, none⟩ = cs[i]?)
theorem Row.keep {α : Type} {A : Sp α} {w w' : World} {ad : Option Addr} {n : Nat} {l : List α} (h : Row A w ad n l) (g : Grew w w') : Row A w' ad n l :=
  ⟨h.1, fun hn => by
    obtain ⟨b, o, e, hb, hc⟩ := h.2 hn
    refine ⟨b, o, e, Nat.lt_of_lt_of_le hb g.size, fun j hj => ?_⟩
    obtain ⟨cs, h1, h2⟩ := hc j hj
    exact ⟨cs, A.keep h1 g, fun i hi => (grew_cell g (p := ⟨b, o + j * A.size + i, none⟩) hb).trans (h2 i hi)⟩⟩
theorem Row.nil {α : Type} (A : Sp α) (w : World) (ad : Option Addr) : Row A w ad 0 [] := ⟨rfl, fun h => absurd h (by omega)⟩
theorem Row.take {α : Type} {A : Sp α} {w : World} {ad : Option Addr} {n k : Nat} {l : List α} (h : Row A w ad n l) (hk : k ≤ n) : Row A w ad k (l.take k) := by
  refine ⟨by have := h.1; simp; omega, fun hp => ?_⟩
  obtain ⟨b, o, e, hb, hc⟩ := h.2 (by omega)
  refine ⟨b, o, e, hb, fun j hj => ?_⟩
  obtain ⟨cs, h1, h2⟩ := hc j (by rw [List.length_take] at hj; omega)
  exact ⟨cs, by rw [List.getElem_take]; exact h1, h2⟩
theorem Row.drop {α : Type} {A : Sp α} {w : World} {ad : Addr} {n k : Nat} {l : List α} (h : Row A w (some ad) n l) (hk : k ≤ n) : Row A w (some (ad.add (k * A.size))) (n - k) (l.drop k) := by
  refine ⟨by have := h.1; simp; omega, fun hp => ?_⟩
  obtain ⟨b, o, e, hb, hc⟩ := h.2 (by omega)
  cases e
  refine ⟨b, o + k * A.size, by rw [addr_add], hb, fun j hj => ?_⟩
  obtain ⟨cs, h1, h2⟩ := hc (k + j) (by rw [List.length_drop] at hj; omega)
  refine ⟨cs, by rw [List.getElem_drop]; exact h1, fun i hi => ?_⟩
  rw [← h2 i hi, Nat.add_mul, Nat.add_assoc o]

def spSlice {α : Type} (A : Sp α) : Sp (List α) :=
  ⟨1, fun w cs l => ∃ ad n c, cs = [.slice ad n c] ∧ Row A w ad n l ∧ (ad = none → c = 0) ∧ n ≤ c ∧ c ≤ maxLen, fun ⟨_, _, _, e, _⟩ => by rw [e]; rfl,
    fun ⟨ad, n, c, e, h, r⟩ g => ⟨ad, n, c, e, h.keep g, r⟩⟩
def spArr {α : Type} (n : Nat) (A : Sp α) : Sp (List α) :=
  ⟨n * A.size, fun w cs l => l.length = n ∧ cs.length = n * A.size ∧ ∀ j (h : j < l.length), A.rd w ((cs.drop (j * A.size)).take A.size) l[j], fun h => h.2.1,
    fun h g => ⟨h.1, h.2.1, fun j hj => A.keep (h.2.2 j hj) g⟩⟩
/-- The same cells, read through a function. -/
def spMap {α β : Type} (f : α → β) (A : Sp α) : Sp β :=
  ⟨A.size, fun w cs b => ∃ a, A.rd w cs a ∧ f a = b, fun ⟨_, h, _⟩ => A.len h, fun ⟨a, h, e⟩ g => ⟨a, A.keep h g, e⟩⟩

/-- What came in at type t reads as A says. -/
def Opens (P : Program) (t : TypeId) {α : Type} (A : Sp α) : Prop :=
  P.cellsOf t = A.size ∧ ∀ {H : Type} (enc : TypeId × Value → H) (w : World) (held : Bool) (fuel : Nat) (cs : List Value) (x : DataW H × List MemPlace), DataW.trod enc P w 0 (fun _ => true) held fuel t cs = some x → ∃ a, A.rd w cs a

theorem opens_int {P : Program} {t : TypeId} {k : IntKind} (ht : P.underlying t = some (.int k)) (hc : P.cellsOf t = 1) : Opens P t (spInt k) :=
  ⟨hc, fun _ _ _ _ _ _ h => by obtain ⟨n, e, _, w⟩ := DataW.trod_int ht h; exact ⟨n, e, w⟩⟩
theorem opens_bool {P : Program} {t : TypeId} (ht : P.underlying t = some .bool) (hc : P.cellsOf t = 1) : Opens P t spBool :=
  ⟨hc, fun _ _ _ _ _ _ h => by obtain ⟨n, e, _⟩ := DataW.trod_bool ht h; exact ⟨n, e⟩⟩
theorem opens_str {P : Program} {t : TypeId} (ht : P.underlying t = some .string) (hc : P.cellsOf t = 1) : Opens P t spStr :=
  ⟨hc, fun _ _ _ _ _ _ h => by obtain ⟨n, e, _, w⟩ := DataW.trod_string ht h; exact ⟨n, e, w⟩⟩
theorem opens_map {P : Program} {t : TypeId} {α β : Type} {A : Sp α} (f : α → β) (h : Opens P t A) : Opens P t (spMap f A) :=
  ⟨h.1, fun enc w held fuel cs x hx => by obtain ⟨a, ha⟩ := h.2 enc w held fuel cs x hx; exact ⟨f a, a, ha, rfl⟩⟩

theorem opens_slice {P : Program} {t e : TypeId} {α : Type} [Inhabited α] {A : Sp α} (ht : P.underlying t = some (.slice e)) (hc : P.cellsOf t = 1) (he : Opens P e A) (hz : A.size ≠ 0) : Opens P t (spSlice A) := by
  refine ⟨hc, fun enc w held fuel cs x h => ?_⟩
  rcases Go.Deep.open_slice ht h with ⟨rfl, _⟩ | ⟨a, len, cap, m, n, D, Pl, rfl, _, hl, hm, hmm, _, hx⟩
  · exact ⟨[], none, 0, 0, rfl, Row.nil A w none, fun _ => rfl, Nat.le_refl _, by unfold maxLen; omega⟩
  · simp only [if_true] at hmm
    subst hmm
    have each : ∀ i, i < m → ∃ y, ∃ cs, A.rd w cs y ∧ ∀ k, k < A.size → w.cell? ((a.add (i * A.size)).add k) = cs[k]? := by
      intro i hi
      obtain ⟨cs', h1, h2⟩ := hx i hi
      rw [he.1] at h1
      obtain ⟨_, hlen, hcell⟩ := World.cells?_some h1
      obtain ⟨y, hy⟩ := he.2 enc w held n cs' _ h2
      exact ⟨y, cs', hy, hcell⟩
    obtain ⟨f, hf⟩ := Go.Deep.choose_lt each
    refine ⟨(List.range len).map f, some a, len, m, rfl, ⟨by simp, fun h0 => ?_⟩, fun h => by (cases h), hl, hm⟩
    obtain ⟨b, o, spot⟩ := a
    obtain ⟨cs0, h1, h2⟩ := hf 0 (by omega)
    have h3 := h2 0 (by omega)
    have hl0 := A.len h1
    have h4 : w.cell? ⟨b, o, spot⟩ = some cs0[0] := by
      rw [List.getElem?_eq_getElem (by omega)] at h3
      simpa [Addr.add] using h3
    have hspot : spot = none := by simpa using World.cell?_spot h4
    subst hspot
    refine ⟨b, o, rfl, by simpa using World.block_lt_of_cell? w _ h4, fun j hj => ?_⟩
    obtain ⟨cs', g1, g2⟩ := hf j (by simp at hj; omega)
    refine ⟨cs', by simpa using g1, fun i hi => ?_⟩
    rw [← g2 i hi, addr_add, addr_add]

/-- A struct's fields, in their order, from a cell on. -/
inductive Fs (P : Program) : List Field → Nat → {α : Type} → Sp α → Prop
  | last {α : Type} {A : Sp α} (f : Field) (off : Nat) (ho : f.offset = off) (h : Opens P f.type A) : Fs P [f] off A
  | cons {α β : Type} {A : Sp α} {B : Sp β} (f : Field) (fs : List Field) (off : Nat) (ho : f.offset = off) (h : Opens P f.type A) (r : Fs P fs (off + A.size) B) : Fs P (f :: fs) off (spPair A B)

theorem Fs.rd {P : Program} {H : Type} {enc : TypeId × Value → H} {w : World} {held : Bool} {n : Nat} {cs : List Value} {fs : List Field} {off : Nat} {α : Type} {A : Sp α} (h : Fs P fs off A)
    (hx : ∀ f ∈ fs, ∃ y, DataW.trod enc P w 0 (fun _ => true) held n f.type ((cs.drop f.offset).take (P.cellsOf f.type)) = some y) : ∃ a, A.rd w ((cs.drop off).take A.size) a := by
  induction h with
  | last f off ho h =>
    obtain ⟨y, hy⟩ := hx f (by simp)
    rw [ho, h.1] at hy
    exact h.2 enc w held n _ y hy
  | @cons α β A B f fs off ho h r ih =>
    obtain ⟨y, hy⟩ := hx f (by simp)
    rw [ho, h.1] at hy
    obtain ⟨a, ha⟩ := h.2 enc w held n _ y hy
    obtain ⟨b, hb⟩ := ih fun g hg => hx g (by simp [hg])
    refine ⟨(a, b), _, _, ?_, ha, hb⟩
    show (cs.drop off).take (A.size + B.size) = _
    rw [List.take_add, List.drop_drop]

theorem opens_struct {P : Program} {t : TypeId} {fs : Array Field} {α : Type} {A : Sp α} (ht : P.underlying t = some (.struct fs)) (hc : P.cellsOf t = A.size) (h : Fs P fs.toList 0 A) : Opens P t A := by
  refine ⟨hc, fun enc w held fuel cs x hx => ?_⟩
  obtain ⟨xs, n, _, _, hl, hlen, hf⟩ := DataW.trod_struct ht hx
  obtain ⟨a, ha⟩ := Fs.rd (enc := enc) (w := w) (held := held) (n := n) (cs := cs) h (fun f hfm => by
    obtain ⟨i, hi, rfl⟩ := List.getElem_of_mem hfm
    have e := hf i fs.toList[i] (by simp)
    rw [e, List.getElem?_eq_getElem (by simp at hi; omega)]
    exact ⟨_, rfl⟩)
  rw [List.drop_zero, List.take_of_length_le (by omega)] at ha
  exact ⟨a, ha⟩

theorem opens_arr {P : Program} {t e : TypeId} {n : Nat} {α : Type} [Inhabited α] {A : Sp α} (ht : P.underlying t = some (.array n e)) (hc : P.cellsOf t = n * A.size) (he : Opens P e A) : Opens P t (spArr n A) := by
  refine ⟨hc, fun enc w held fuel cs x hx => ?_⟩
  obtain ⟨xs, m, _, _, hl, hlen, hf⟩ := DataW.trod_array ht hx
  have each : ∀ i, i < n → ∃ y, A.rd w ((cs.drop (i * A.size)).take A.size) y := fun i hi => by
    have e := hf i hi
    rw [he.1, List.getElem?_eq_getElem (by omega)] at e
    exact he.2 enc w held m _ _ e
  obtain ⟨f, hf2⟩ := Go.Deep.choose_lt each
  exact ⟨(List.range n).map f, by simp, by omega, fun j hj => by simpa using hf2 j (by simpa using hj)⟩

/-- An argument's own value, opened. -/
theorem opens_arg {P : Program} {t : TypeId} {α : Type} {A : Sp α} (h : Opens P t A) {H : Type} {enc : TypeId × Value → H} {w : World} {held : Bool} {v : Value} {d : DataW H} {p : List MemPlace}
    (hd : DataW.Trod enc P w 0 (fun _ => true) held t v d p) : ∃ a, A.rd w v.cells.toList a := by
  obtain ⟨fuel, hf⟩ := hd
  exact h.2 enc w held fuel _ _ hf

theorem arg_slice {P : Program} {t e : TypeId} {α : Type} {A : Sp α} (ht : P.underlying t = some (.slice e)) (h : Opens P t (spSlice A)) {H : Type} {enc : TypeId × Value → H} {w : World} {held : Bool} {v : Value} {d : DataW H} {p : List MemPlace} {r : Reach} {b0 : Nat}
    (hv : Value.okWide P w r b0 t v) (hd : DataW.Trod enc P w 0 (fun _ => true) held t v d p) : ∃ ad n c l, v = .slice ad n c ∧ Row A w ad n l ∧ (ad = none → c = 0) ∧ n ≤ c ∧ c ≤ 9223372036854775807 := by
  obtain ⟨ad, n, c, rfl⟩ := Go.WideShapes.okWide_slice ht hv
  obtain ⟨l, ad', n', c', e, hr, h0, h1, h2⟩ := opens_arg h hd
  simp [Value.cells] at e
  obtain ⟨rfl, rfl, rfl⟩ := e
  exact ⟨ad, n, c, l, rfl, hr, h0, h1, by unfold maxLen at h2; omega⟩
theorem arg_struct {P : Program} {t : TypeId} {fs : Array Field} {α : Type} {A : Sp α} (ht : P.underlying t = some (.struct fs)) (h : Opens P t A) {H : Type} {enc : TypeId × Value → H} {w : World} {held : Bool} {v : Value} {d : DataW H} {p : List MemPlace} {r : Reach} {b0 : Nat}
    (hv : Value.okWide P w r b0 t v) (hd : DataW.Trod enc P w 0 (fun _ => true) held t v d p) : ∃ cs a, v = .agg cs ∧ A.rd w cs.toList a := by
  obtain ⟨cs, rfl, _⟩ := Go.WideShapes.okWide_struct ht hv
  obtain ⟨a, ha⟩ := opens_arg h hd
  exact ⟨cs, a, rfl, by simpa [Value.cells] using ha⟩
end Go.Proofs.Ytmbhkeppikaeaaa.NumK
