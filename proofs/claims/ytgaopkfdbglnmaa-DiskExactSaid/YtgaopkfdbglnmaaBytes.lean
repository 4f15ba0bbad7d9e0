/- Slices of bytes in memory: what came in, what the call owns, what is appended, what is made, what a text turns into. -/
import Derived.Test.YtgaopkfdbglnmaaRow
import Derived.Test.YtgaopkfdbglnmaaSpec
import Derived.Test.YtgaopkfdbglnmaaWide0
import Derived.Laws.AppendOwnNone
import Derived.Laws.MakeOwn
import Derived.Laws.CopyOwn
import Derived.Laws.IdiomStrings
namespace Go.Proofs.Ytgaopkfdbglnmaa.NumK
open Go.RowKit

def byv (c : UInt8) : Value := .int .u8 (c.toNat : Int)
/-- The slice value's cells read as the bytes l. -/
def Bys (w : World) (A : Option Addr) (n : Nat) (l : List UInt8) : Prop :=
  l.length = n ∧ (0 < n → ∃ b o, A = some ⟨b, o, none⟩ ∧ b < w.heap.size ∧ ∀ j, j < n → w.cell? ⟨b, o + j, none⟩ = some (.int .u8 ((l.getD j 0).toNat : Int)))
/-- It lies behind block q. -/
def Past (q : Nat) (A : Option Addr) : Prop := ∀ a, A = some a → q < a.block

theorem Bys.keep {w w' : World} {A : Option Addr} {n : Nat} {l : List UInt8} (h : Bys w A n l) (g : Grew w w') : Bys w' A n l :=
  ⟨h.1, fun hn => by
    obtain ⟨b, o, e, hb, hc⟩ := h.2 hn
    exact ⟨b, o, e, Nat.lt_of_lt_of_le hb g.size, fun j hj => (grew_cell g (p := ⟨b, o + j, none⟩) hb).trans (hc j hj)⟩⟩
theorem Bys.turn {w w' : World} {A : Option Addr} {n blk : Nat} {l : List UInt8} (h : Bys w A n l) (g : Turn blk w w') (hA : 0 < n → ∀ a, A = some a → a.block ≠ blk) : Bys w' A n l :=
  ⟨h.1, fun hn => by
    obtain ⟨b, o, e, hb, hc⟩ := h.2 hn
    exact ⟨b, o, e, Nat.lt_of_lt_of_le hb g.size, fun j hj => (g.cell (p := ⟨b, o + j, none⟩) hb (by simpa using hA hn _ e)).trans (hc j hj)⟩⟩
theorem bys0 (w : World) (A : Option Addr) : Bys w A 0 [] := ⟨rfl, fun h => absurd h (by omega)⟩
theorem Bys.nil {w : World} {A : Option Addr} {l : List UInt8} (h : Bys w A 0 l) : l = [] := List.eq_nil_of_length_eq_zero h.1
theorem Bys.cell {w : World} {b o n : Nat} {l : List UInt8} (h : Bys w (some ⟨b, o, none⟩) n l) {j : Nat} (hj : j < n) : w.cell? ⟨b, o + j, none⟩ = some (.int .u8 ((l.getD j 0).toNat : Int)) := by
  obtain ⟨b', o', e, _, hc⟩ := h.2 (by omega)
  cases e
  exact hc j hj
theorem Bys.take {w : World} {A : Option Addr} {n k : Nat} {l : List UInt8} (h : Bys w A n l) (hk : k ≤ n) : Bys w A k (l.take k) :=
  ⟨by have := h.1; simp; omega, fun hp => by
    obtain ⟨b, o, e, hb, hc⟩ := h.2 (by omega)
    refine ⟨b, o, e, hb, fun j hj => ?_⟩
    rw [hc j (by omega)]
    simp [List.getD, hj]⟩
theorem Bys.drop {w : World} {b o n k : Nat} {l : List UInt8} (h : Bys w (some ⟨b, o, none⟩) n l) (hk : k ≤ n) : Bys w (some ⟨b, o + k, none⟩) (n - k) (l.drop k) :=
  ⟨by have := h.1; simp; omega, fun hp => by
    obtain ⟨b', o', e, hb, hc⟩ := h.2 (by omega)
    cases e
    refine ⟨b, o + k, rfl, hb, fun j hj => ?_⟩
    rw [Nat.add_assoc, hc (k + j) (by omega)]
    simp [List.getD]⟩

/-- What an argument's row of bytes gives. -/
theorem bys_of_row {w : World} {A : Option Addr} {n : Nat} {l : List Int} (h : Row (spInt .u8) w A n l) : ∃ bs : List UInt8, Bys w A n bs := by
  refine ⟨l.map fun x => UInt8.ofNat x.toNat, by simp; exact h.1, fun hn => ?_⟩
  obtain ⟨b, o, e, hb, hc⟩ := h.2 hn
  refine ⟨b, o, e, hb, fun j hj => ?_⟩
  have hj2 : j < l.length := by rw [h.1]; exact hj
  obtain ⟨cs, ⟨h1, h2⟩, h3⟩ := hc j hj2
  have h4 := h3 0 (by show 0 < 1; omega)
  rw [h1] at h4
  have e1 : o + j * (spInt IntKind.u8).size + 0 = o + j := by show o + j * 1 + 0 = _; omega
  rw [e1] at h4
  rw [h4]
  have hb := Go.bounds_u8 h2
  have e2 : ((List.map (fun x => UInt8.ofNat x.toNat) l).getD j 0) = UInt8.ofNat l[j].toNat := by simp [List.getD, hj2]
  rw [e2]
  have e3 : (UInt8.ofNat l[j].toNat).toNat = l[j].toNat := by simp; omega
  rw [e3, Int.toNat_of_nonneg hb.1]
  rfl

/-! ### rows of the call's own -/
/-- n bytes that may be written. -/
def WrB (w : World) (B n : Nat) : Prop := B < w.heap.size ∧ ∀ k, k < n → (∃ x : Int, w.cell? ⟨B, k, none⟩ = some (.int .u8 x)) ∧ w.frozen? ⟨B, k, none⟩ = false
theorem WrB.keep {w w' : World} {B n : Nat} (h : WrB w B n) (g : Grew w w') : WrB w' B n :=
  ⟨Nat.lt_of_lt_of_le h.1 g.size, fun k hk => ⟨by obtain ⟨x, hx⟩ := (h.2 k hk).1; exact ⟨x, (grew_cell g (p := ⟨B, k, none⟩) h.1).trans hx⟩, (Below.frozen g (p := ⟨B, k, none⟩) h.1).trans (h.2 k hk).2⟩⟩
theorem WrB.turn {w w' : World} {B b n : Nat} (h : WrB w B n) (g : Turn b w w') (hn : B ≠ b) : WrB w' B n :=
  ⟨Nat.lt_of_lt_of_le h.1 g.size, fun k hk => ⟨by obtain ⟨x, hx⟩ := (h.2 k hk).1; exact ⟨x, (g.cell (p := ⟨B, k, none⟩) h.1 hn).trans hx⟩, (g.frozen (p := ⟨B, k, none⟩) h.1 hn).trans (h.2 k hk).2⟩⟩
theorem WrB.set {w : World} {B n : Nat} (h : WrB w B n) (i : Nat) (v : Int) : WrB (w.setCell ⟨B, i, none⟩ (.int .u8 v)) B n := by
  refine ⟨by simp [World.setCell]; exact h.1, fun k hk => ⟨?_, by rw [World.frozen?_setCell]; exact (h.2 k hk).2⟩⟩
  obtain ⟨x, hx⟩ := (h.2 k hk).1
  by_cases c : k = i
  · subst c; exact ⟨v, World.cell?_setCell_same _ _ _ hx⟩
  · exact ⟨x, (World.cell?_setCell_other _ _ _ _ (by intro e; simp only [Addr.mk.injEq] at e; omega)).trans hx⟩
/-- A slice of bytes that is none, or is new since w0 and may be written. -/
def FreshB (w0 w : World) (A : Option Addr) (n c : Nat) : Prop := (A = none ∧ n = 0 ∧ c = 0) ∨ ∃ B, A = some ⟨B, 0, none⟩ ∧ w0.heap.size ≤ B ∧ WrB w B n
theorem FreshB.keep {w0 w w' : World} {A : Option Addr} {n c : Nat} (h : FreshB w0 w A n c) (g : Grew w w') : FreshB w0 w' A n c := by
  rcases h with h | ⟨B, h1, h2, h3⟩
  · exact Or.inl h
  · exact Or.inr ⟨B, h1, h2, h3.keep g⟩
theorem FreshB.mono {w0 w1 w : World} {A : Option Addr} {n c : Nat} (h : FreshB w1 w A n c) (g : Grew w0 w1) : FreshB w0 w A n c := by
  rcases h with h | ⟨B, h1, h2, h3⟩
  · exact Or.inl h
  · exact Or.inr ⟨B, h1, Nat.le_trans g.size h2, h3⟩
theorem FreshB.past {w0 w : World} {A : Option Addr} {n c q : Nat} (h : FreshB w0 w A n c) (hq : q < w0.heap.size) : Past q A := by
  rcases h with ⟨rfl, _⟩ | ⟨B, rfl, h2, _⟩
  · intro a e; cases e
  · intro a e; cases e; exact Nat.lt_of_lt_of_le hq h2

theorem own_at_lt {w : World} {g : Nat} {x : Obj} (h : w.heap[g]? = some x) : g < w.heap.size := by
  rcases Nat.lt_or_ge g w.heap.size with h1 | h1
  · exact h1
  · rw [Array.getElem?_eq_none h1] at h; cases h

theorem bys_of_own {w : World} {base : Nat} {e : TypeId} {v : Value} {n : Nat} {l : List UInt8} (h : w.ownsRow base e 1 v n (l.map byv)) :
    ∃ A c, v = .slice A n c ∧ Bys w A n l ∧ (A = none → c = 0) ∧ ∀ w0 : World, w0.heap.size ≤ base → FreshB w0 w A n c := by
  obtain ⟨hl, h⟩ := h
  rw [List.length_map, Nat.mul_one] at hl
  rcases h with ⟨rfl, rfl⟩ | ⟨g, cap, cur, rfl, hb, hh, h1, _, _, ht⟩
  · exact ⟨none, 0, rfl, ⟨hl, fun h => absurd h (by omega)⟩, fun _ => rfl, fun _ _ => Or.inl ⟨rfl, rfl, rfl⟩⟩
  · have hcell : ∀ j, j < n → w.cell? ⟨g, 0 + j, none⟩ = some (.int .u8 ((l.getD j 0).toNat : Int)) := fun j hj => by
      rw [cell_of_row w g (0 + j) cur e (0, 0) hh, Nat.zero_add]
      have e1 : (cur.toList.take (n * 1))[j]? = cur[j]? := by rw [List.getElem?_take]; simp [hj]
      rw [← e1, ht, List.getElem?_map]
      have : j < l.length := by omega
      simp [List.getD, this, byv]
    refine ⟨some ⟨g, 0, none⟩, cap, rfl, ⟨hl, fun hn => ⟨g, 0, rfl, own_at_lt hh, hcell⟩⟩, (fun h => by cases h), fun w0 h0 => Or.inr ⟨g, rfl, Nat.le_trans h0 hb, own_at_lt hh, fun k hk => ⟨⟨_, by have := hcell k hk; rwa [Nat.zero_add] at this⟩, ?_⟩⟩⟩
    unfold World.frozen?
    simp [hh]

theorem info_u8 : (Try.prog.info? 5).map (fun i => (i.zero, i.size, i.bytes)) = some (some (.int .u8 0), 1, 1) := by kernel_rfl

section
variable {w : World} {ops : Array Oper} {rest : List Oper} {o : Oper} {a : Act} {Q : Exit → Act → World → Prop}
theorem wpList_append_bytes (hgd : o.guard = none) (s x : Operand)
    (ho : o.op = .call { callee := .builtin .append, args := #[s, x], argTypes := #[44, 44] })
    (base : Nat) (v : Value) (n : Nat) (xs : List UInt8) (hs : a.eval s = v) (hown : w.ownsRow base 5 1 v n (xs.map byv))
    (A : Option Addr) (m c : Nat) (zs : List UInt8) (hx : a.eval x = .slice A m c) (hA : A = none → c = 0) (hI : Bys w A m zs)
    (h63 : n + m ≤ 140737488355328) (hbase : base ≤ w.heap.size)
    (h : ∀ v' w', w'.ownsRow base 5 1 v' (n + m) ((xs ++ zs).map byv) → Below base w w' → wpList Try.prog ops Q rest (a.put o.dst v') w') : wpList Try.prog ops Q (o :: rest) a w := by
  obtain ⟨i, hi, hz0, hz1, hz2⟩ := info_parts info_u8
  have hl := hI.1
  cases A with
  | none =>
    have hc := hA rfl
    subst hc
    have hm : m = 0 := by
      rcases Nat.eq_zero_or_pos m with h0 | h0
      · exact h0
      · obtain ⟨b, o, he, _⟩ := hI.2 h0
        cases he
    subst hm
    have hz : zs = [] := List.eq_nil_of_length_eq_zero hl
    subst hz
    exact wpList_append_own_none hgd s x 44 ho base 5 i 1 Try.underlying44 hi v n _ hs hown hx (h v w (by simpa using hown) (Below.refl _ _))
  | some ad =>
    refine wpList_append_own w hgd s x 44 ho base 5 i (.int .u8 0) 1 1 Try.underlying44 hi hz0 hz1 hz2 rfl (by decide) v n _ hs hown ad m c (zs.map byv) hx
      (by simp [hl]) (fun j u hu => ?_) (fun u hu => ?_) (by unfold maxLen; omega) (by omega) hbase (fun v' w' ho' hg _ => ?_)
    · rw [List.getElem?_map] at hu
      obtain ⟨z, hz, rfl⟩ := Option.map_eq_some_iff.1 hu
      have hj : j < m := by rw [← hl]; exact (List.getElem?_eq_some_iff.1 hz).1
      obtain ⟨b, off, he, _, hc⟩ := hI.2 (by omega)
      cases he
      rw [addr_add, hc j hj]
      simp [List.getD, hz, byv]
    · obtain ⟨z, _, rfl⟩ := List.mem_map.1 hu
      rfl
    · refine h v' w' (by rw [List.map_append]; exact ho') ((Below.refl base w).grown hg hbase fun k hk => ?_)
      exact (hown.lt k hk).1
end

/-- The run of 'make([]byte, n)'. -/
theorem run_u8s (w : World) (n : Nat) (hn : n ≤ 140737488355328) : (Instr.makeSlice 44 (.int .i64 n) (.int .i64 n)).run Try.prog w = .ok (.slice (some ⟨w.heap.size, 0, none⟩) n n) (w.alloc (.cells (madeCells #[.int .u8 0] n) 5)) := by
  obtain ⟨i, hi, hz0, hz1, hz2⟩ := info_parts info_u8
  have := run_make (P := Try.prog) w 44 5 i (.int .u8 0) Try.underlying44 hi hz0 .i64 .i64 n n (by omega) (by omega) (by rw [hz2]; omega) (by omega)
  simpa [hz1, Value.cells] using this

/-- What '[]byte(s)' lays: the world behind it. -/
def strW (w : World) (s : ByteArray) : World := w.drew.alloc (.cells (bytesRow s (grownCap w s.size 0 5)) 5 ((bytesRow s (grownCap w s.size 0 5)).size, (bytesRow s (grownCap w s.size 0 5)).size + 1))
theorem run_toBytes (w : World) (s : ByteArray) : (convert 9 44 (.string s)).run Try.prog w = .ok (.slice (some ⟨w.heap.size, 0, none⟩) s.size (grownCap w s.size 0 5)) (strW w s) :=
  run_bytes_of_string w 9 44 5 s Try.underlying9 Try.underlying44 Try.underlying5
theorem grew_strW (w : World) (s : ByteArray) : Grew w (strW w s) := (Below.drew (Below.refl _ _)).alloc (Nat.le_refl _) _
theorem bys_strW (w : World) (s : ByteArray) : Bys (strW w s) (some ⟨w.heap.size, 0, none⟩) s.size s.data.toList := by
  refine ⟨by simp, fun _ => ⟨w.heap.size, 0, rfl, by simp [strW], fun j hj => ?_⟩⟩
  have hj2 : j < s.data.size := hj
  rw [Nat.zero_add]
  refine (World.cell?_alloc_mark w.drew _ _ _ j).trans ?_
  rw [bytesRow_at s _ j hj2]
  simp only [List.getD, Array.getElem?_toList, Array.getElem?_eq_getElem hj2, Option.getD_some]
theorem fresh_strW (w : World) (s : ByteArray) (c : Nat) : FreshB w (strW w s) (some ⟨w.heap.size, 0, none⟩) s.size c := by
  refine Or.inr ⟨w.heap.size, rfl, Nat.le_refl _, by simp [strW], fun k hk => ⟨⟨_, by have := (bys_strW w s).cell hk; rwa [Nat.zero_add] at this⟩, ?_⟩⟩
  refine (World.frozen?_alloc_mark w.drew _ _ _ _ k).trans ?_
  have : (bytesRow s (grownCap w s.size 0 5)).size ≥ s.size := by
    unfold bytesRow
    rw [Array.size_append, Array.size_map]
    exact Nat.le_add_right _ _
  simp; omega

/-- The run of 'string(b)'. -/
theorem run_toText (w : World) (A : Option Addr) (n c : Nat) (l : List UInt8) (h : Bys w A n l) (hA : A = none → c = 0) : (convert 44 9 (.slice A n c)).run Try.prog w = .ok (.string ⟨l.toArray⟩) w := by
  obtain ⟨h1, h2⟩ := h
  subst h1
  cases A with
  | some ad =>
    refine run_convert_bytes_back (P := Try.prog) w 44 9 5 ad c l Try.underlying44 Try.underlying5 Try.underlying9 (fun j hj => ?_)
    obtain ⟨b, o, e, _, hc⟩ := h2 (by omega)
    cases e
    rw [addr_add, hc j hj]
    simp [List.getD, hj]
  | none =>
    have h0 : l = [] := by
      rcases Nat.eq_zero_or_pos l.length with h0 | h0
      · exact List.eq_nil_of_length_eq_zero h0
      · obtain ⟨b, o, e, _⟩ := h2 h0; cases e
    subst h0
    rw [hA rfl]
    rw [List.length_nil, run_convert_bytes_string w 44 9 5 none 0 0 Try.underlying44 Try.underlying5 Try.underlying9]
    rfl
theorem bys1 (w : World) (c : UInt8) (t : TypeId) (x : Int) (hx : x = (c.toNat : Int)) : Bys (w.alloc (.cells #[.int .u8 x] t)) (some ⟨w.heap.size, 0, none⟩) 1 [c] :=
  ⟨rfl, fun _ => ⟨_, _, rfl, by simp, fun j hj => by
    match j, hj with
    | 0, _ => simp [hx]⟩⟩

theorem bys4 (w : World) (a b c d : Int) (x y z u : UInt8) (t : TypeId) (h1 : a = x.toNat) (h2 : b = y.toNat) (h3 : c = z.toNat) (h4 : d = u.toNat) :
    Bys (w.alloc (.cells #[.int .u8 a, .int .u8 b, .int .u8 c, .int .u8 d] t)) (some ⟨w.heap.size, 0, none⟩) 4 [x, y, z, u] :=
  ⟨rfl, fun _ => ⟨_, _, rfl, by simp, fun j hj => by
    match j, hj with
    | 0, _ => simp [h1]
    | 1, _ => simp [h2]
    | 2, _ => simp [h3]
    | 3, _ => simp [h4]⟩⟩

theorem FreshB.turn {w0 w w' : World} {A : Option Addr} {n c b : Nat} (h : FreshB w0 w A n c) (g : Turn b w w') (hb : ∀ a, A = some a → a.block ≠ b) : FreshB w0 w' A n c := by
  rcases h with h | ⟨B, h1, h2, h3⟩
  · exact Or.inl h
  · exact Or.inr ⟨B, h1, h2, h3.turn g (hb _ h1)⟩
theorem FreshB.ge {w0 w : World} {A : Option Addr} {n c : Nat} (h : FreshB w0 w A n c) : ∀ a, A = some a → w0.heap.size ≤ a.block := by
  intro a ha
  rcases h with h | ⟨B, h1, h2, h3⟩
  · rw [h.1] at ha; cases ha
  · rw [h1] at ha; cases ha; exact h2
theorem FreshB.lt {w0 w : World} {A : Option Addr} {n c : Nat} (h : FreshB w0 w A n c) : ∀ a, A = some a → a.block < w.heap.size := by
  intro a ha
  rcases h with h | ⟨B, h1, h2, h3⟩
  · rw [h.1] at ha; cases ha
  · rw [h1] at ha; cases ha; exact h3.1
theorem ite_some {P : Prop} [Decidable P] (x y : Addr) (h : (if P then some x else some y) = (none : Option Addr)) : False := by
  split at h <;> cases h
theorem bys_cut {w : World} {b o n c t T : Nat} {bs : List UInt8} (h : Bys w (some ⟨b, o, none⟩) n bs) (ht : t ≤ T) (hT : T ≤ n) (hc : n ≤ c) : Bys w (if c = t then some ⟨b, o, none⟩ else some ⟨b, o + t, none⟩) (T - t) ((bs.drop t).take (T - t)) := by
  by_cases e : c = t
  · have h0 : T - t = 0 := by omega
    rw [h0, List.take_zero]; exact bys0 _ _
  · rw [if_neg e]
    exact (h.drop (by omega)).take (by omega)
end Go.Proofs.Ytgaopkfdbglnmaa.NumK
