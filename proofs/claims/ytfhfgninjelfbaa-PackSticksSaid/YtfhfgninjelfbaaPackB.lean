/- pack: appendInt; a Writer's pieces, add. -/
import Derived.Test.YtfhfgninjelfbaaPackA
import Derived.Deep.CutBlock
import Derived.Laws.BitsAllLaws
namespace Go.Proofs.Ytfhfgninjelfbaa.NumK
open Go.RowKit

set_option maxRecDepth 10000 in
theorem or_more (z : Nat) : bits .or .u8 ((z : Int) % 256) 128 = ((UInt8.ofNat (z % 128 + 128)).toNat : Int) := by
  have e : ∀ a : Fin 256, a.val ||| 128 = a.val % 128 + 128 := by decide
  have h1 : (z : Int) % 256 = ((z % 256 : Nat) : Int) := by omega
  have h2 := e ⟨z % 256, by omega⟩
  rw [h1, show (128 : Int) = ((128 : Nat) : Int) from rfl, u8_or_nat _ _ (by omega) (by omega), u8_ofNat (by omega)]
  simp only at h2
  rw [h2]
  omega
theorem low_u8 (z : Nat) (h : z < 128) : IntKind.u8.wrap (z : Int) = ((UInt8.ofNat z).toNat : Int) := by
  rw [u8_ofNat (by omega), IntKind.wrap_u8]; omega

theorem bys1 (w : World) (c : UInt8) (t : TypeId) (x : Int) (hx : x = (c.toNat : Int)) : Bys (w.alloc (.cells #[.int .u8 x] t)) (some ⟨w.heap.size, 0, none⟩) 1 [c] :=
  ⟨rfl, fun _ => ⟨_, _, rfl, by simp, fun j hj => by
    match j, hj with
    | 0, _ => simp [hx]⟩⟩

set_option maxRecDepth 100000 in
set_option maxHeartbeats 1000000 in
theorem appendInt_any (n : Int) (h1 : -9223372036854775808 ≤ n) (h2 : n ≤ 9223372036854775807) (base : Nat) (v : Value) (m : Nat) (xs : List UInt8) (w : World) (ho : w.ownsRow base 5 1 v m (xs.map byv)) (hb : base ≤ w.heap.size) (hm : m ≤ 1000000000) :
    Calls Try.prog 41 #[v, .int .i64 n] w fun e w' => ∃ v', e = .returned v' ∧ w'.ownsRow base 5 1 v' (m + (encI n).length) ((xs ++ encI n).map byv) ∧ Below base w w' := by
  have C := fun w => fold_any n h1 h2 w
  have HL := Lib.hid (encI_len h1 h2)
  have HE : Hid (encI n = vb (zig n)) := rfl
  have hz := zig_lt h1 h2
  have HO := Lib.hid ho
  clear ho
  generalize encI n = E at *
  generalize zig n = Z at *
  go_enter Try.func41, Try.ntmps41
  go_wp2_with (go_at_call 44; ((with_reducible refine (C _).mono ?_); rintro e w1 ⟨rfl, rfl⟩))
  clear C h1 h2
  go_loopw [0, 5] (fun v0 v5 wr => ∃ (z : Nat) (d : List UInt8), v5 = .int .u64 z ∧ z ≤ Z ∧ Hid (E = d ++ vb z) ∧ Hid (wr.ownsRow base 5 1 v0 (m + d.length) ((xs ++ d).map byv)) ∧ Hid (Below base w wr)) (fun _ v5 _ => (intOf v5).toNat)
  case atStart => exact ⟨Z, [], rfl, Nat.le_refl _, HE, by simpa using HO, Below.refl _ _⟩
  case round =>
    obtain ⟨z, d, rfl, hz2, HD, HR, HB⟩ := hrel
    have hl : Hid (d.length + (vb z).length ≤ 10) := by show _ ≤ _; have := HL.out; rw [HD.out] at this; simpa using this
    have hpos := Lib.hid (vb_pos z)
    by_cases hc : z < 128
    · have hw := low_u8 z hc
      have hv := Lib.hid (vb_lo hc)
      generalize UInt8.ofNat z = u at *
      go_wp2_with (at_builtin; refine (wpList_append_bytes rfl _ _ rfl base _ (m + d.length) (xs ++ d) rfl (HR.out.alloc _) (some ⟨wr.heap.size, 0, none⟩) 1 1 [u] rfl (by intro h; cases h) (bys1 _ u _ _ rfl) (by have := hl.out; omega) (by have := HB.out.size; simp; omega) ?_); intro v' w' hv' hb'; have HV' := Lib.hid hv'; have HB' := Lib.hid hb'; clear hv' hb')
      go_ret
      refine ⟨v', rfl, ?_, (Below.alloc HB.out (Nat.le_trans hb HB.out.size) _).trans HB'.out⟩
      have := HV'.out
      rw [HD.out, hv.out]
      simpa [Nat.add_assoc] using this
    · have hw := or_more z
      have hv := Lib.hid (vb_hi hc)
      generalize UInt8.ofNat (z % 128 + 128) = u at *
      go_wp2_with (at_builtin; refine (wpList_append_bytes rfl _ _ rfl base _ (m + d.length) (xs ++ d) rfl (HR.out.alloc _) (some ⟨wr.heap.size, 0, none⟩) 1 1 [u] rfl (by intro h; cases h) (bys1 _ u _ _ rfl) (by have := hl.out; omega) (by have := HB.out.size; simp; omega) ?_); intro v' w' hv' hb'; have HV' := Lib.hid hv'; have HB' := Lib.hid hb'; clear hv' hb')
      go_roundw
      case rel =>
        refine ⟨z / 128, d ++ [u], rfl, by omega, by have := HD.out; rw [hv.out] at this; simpa [Hid] using this, ?_, (Below.alloc HB.out (Nat.le_trans hb HB.out.size) _).trans HB'.out⟩
        have := HV'.out
        simpa [Nat.add_assoc, Hid] using this
      case measure => simp only [intOf]; omega

/-! ### a Writer: its last piece and, through it, all others -/
inductive Chain (w : World) (q : Nat) : Option Addr → List UInt8 → Prop
  | nil : Chain w q none []
  | cons {p : Nat} {before A : Option Addr} {n c : Nat} {l bs : List UInt8} (hq : q < p) (hp : p < w.heap.size) (h0 : w.cell? ⟨p, 0, none⟩ = some (.pointer before)) (h1 : w.cell? ⟨p, 1, none⟩ = some (.slice A n c))
      (hb : Bys w A n bs) (hA : Past q A) (hlt : ∀ a, before = some a → a.block < p) (h : Chain w q before l) : Chain w q (some ⟨p, 0, none⟩) (l ++ bs)

theorem Chain.keep {w w' : World} {q : Nat} {a : Option Addr} {l : List UInt8} (h : Chain w q a l) (g : Grew w w') : Chain w' q a l := by
  induction h with
  | nil => exact .nil
  | @cons p _ _ _ _ _ _ hq hp h0 h1 hb hA hlt _ ih => exact .cons hq (Nat.lt_of_lt_of_le hp g.size) ((grew_cell g (p := ⟨p, 0, none⟩) hp).trans h0) ((grew_cell g (p := ⟨p, 1, none⟩) hp).trans h1) (hb.keep g) hA hlt ih
theorem Chain.turn {w w' : World} {q b : Nat} {a : Option Addr} {l : List UInt8} (h : Chain w q a l) (g : Turn b w w') (hb : b ≤ q) : Chain w' q a l := by
  induction h with
  | nil => exact .nil
  | @cons p _ _ _ _ _ _ hq hp h0 h1 hbs hA hlt _ ih =>
    exact .cons hq (Nat.lt_of_lt_of_le hp g.size) ((g.cell (p := ⟨p, 0, none⟩) hp (by show p ≠ b; omega)).trans h0) ((g.cell (p := ⟨p, 1, none⟩) hp (by show p ≠ b; omega)).trans h1) (hbs.turn g (fun _ a ha => by have := hA a ha; omega)) hA hlt ih
theorem Chain.lt {w : World} {q : Nat} {a : Addr} {l : List UInt8} (h : Chain w q (some a) l) : q < a.block ∧ a.block < w.heap.size := by
  cases h with
  | cons hq hp => exact ⟨hq, hp⟩

/-- The Writer in block q: none: ErrLong is recorded; else all that was written. -/
def WR (w : World) (q : Nat) (st : Option (List UInt8)) : Prop :=
  q < w.heap.size ∧ ∃ (a : Option Addr) (sz e : Int), w.cell? ⟨q, 0, none⟩ = some (.pointer a) ∧ w.cell? ⟨q, 1, none⟩ = some (.int .i64 sz) ∧ w.cell? ⟨q, 2, none⟩ = some (.int .i64 e) ∧
    w.frozen? ⟨q, 0, none⟩ = false ∧ w.frozen? ⟨q, 1, none⟩ = false ∧ w.frozen? ⟨q, 2, none⟩ = false ∧
    match st with
    | none => e = 5
    | some l => e = 0 ∧ sz = l.length ∧ Chain w q a l
theorem WR.keep {w w' : World} {q : Nat} {st : Option (List UInt8)} (h : WR w q st) (g : Grew w w') : WR w' q st := by
  obtain ⟨hq, a, sz, e, h0, h1, h2, f0, f1, f2, h⟩ := h
  refine ⟨Nat.lt_of_lt_of_le hq g.size, a, sz, e, (grew_cell g (p := ⟨q, 0, none⟩) hq).trans h0, (grew_cell g (p := ⟨q, 1, none⟩) hq).trans h1, (grew_cell g (p := ⟨q, 2, none⟩) hq).trans h2,
    (Below.frozen g (p := ⟨q, 0, none⟩) hq).trans f0, (Below.frozen g (p := ⟨q, 1, none⟩) hq).trans f1, (Below.frozen g (p := ⟨q, 2, none⟩) hq).trans f2, ?_⟩
  cases st with
  | none => exact h
  | some l => exact ⟨h.1, h.2.1, h.2.2.keep g⟩
theorem WR.turn {w w' : World} {q b : Nat} {st : Option (List UInt8)} (h : WR w q st) (g : Turn b w w') (hb : b < q) : WR w' q st := by
  obtain ⟨hq, a, sz, e, h0, h1, h2, f0, f1, f2, h⟩ := h
  have hn : q ≠ b := by omega
  refine ⟨Nat.lt_of_lt_of_le hq g.size, a, sz, e, (g.cell (p := ⟨q, 0, none⟩) hq hn).trans h0, (g.cell (p := ⟨q, 1, none⟩) hq hn).trans h1, (g.cell (p := ⟨q, 2, none⟩) hq hn).trans h2,
    (g.frozen (p := ⟨q, 0, none⟩) hq hn).trans f0, (g.frozen (p := ⟨q, 1, none⟩) hq hn).trans f1, (g.frozen (p := ⟨q, 2, none⟩) hq hn).trans f2, ?_⟩
  cases st with
  | none => exact h
  | some l => exact ⟨h.1, h.2.1, h.2.2.turn g (by omega)⟩
theorem WR.new (w : World) (t : TypeId) : WR (w.alloc (.cells #[.pointer none, .int .i64 0, .int .i64 0] t)) w.heap.size (some []) :=
  ⟨by simp, none, 0, 0, by simp, by simp, by simp, by simp, by simp, by simp, rfl, rfl, .nil⟩

/-- The worlds that add leaves. -/
theorem add_world {q : Nat} {l bs : List UInt8} {A a : Option Addr} {n c : Nat} {w : World} {t : TypeId} (hq : q < w.heap.size) (h0 : w.cell? ⟨q, 0, none⟩ = some (.pointer a)) (h1 : w.cell? ⟨q, 1, none⟩ = some (.int .i64 (l.length : Int))) (h2 : w.cell? ⟨q, 2, none⟩ = some (.int .i64 0))
    (f0 : w.frozen? ⟨q, 0, none⟩ = false) (f1 : w.frozen? ⟨q, 1, none⟩ = false) (f2 : w.frozen? ⟨q, 2, none⟩ = false) (hC : Chain w q a l) (hb : Bys w A n bs) (hA : Past q A) :
    WR (((w.setCell ⟨q, 0, none⟩ (.pointer (some ⟨w.heap.size, 0, none⟩))).setCell ⟨q, 1, none⟩ (.int .i64 ((l.length : Int) + n))).alloc (.cells #[.pointer a, .slice A n c] t)) q (some (l ++ bs)) ∧
    Turn q w (((w.setCell ⟨q, 0, none⟩ (.pointer (some ⟨w.heap.size, 0, none⟩))).setCell ⟨q, 1, none⟩ (.int .i64 ((l.length : Int) + n))).alloc (.cells #[.pointer a, .slice A n c] t)) := by
  have hT := ((((Turn.refl q w).setCell 0 (.pointer (some ⟨w.heap.size, 0, none⟩))).setCell 1 (.int .i64 ((l.length : Int) + n))).grew (grew_alloc _ #[.pointer a, .slice A n c] t))
  have hs : ((w.setCell ⟨q, 0, none⟩ (.pointer (some ⟨w.heap.size, 0, none⟩))).setCell ⟨q, 1, none⟩ (.int .i64 ((l.length : Int) + n))).heap.size = w.heap.size := by simp [World.setCell]
  have n1 : (w.setCell ⟨q, 0, none⟩ (.pointer (some ⟨w.heap.size, 0, none⟩))).cell? ⟨q, 1, none⟩ = some (.int .i64 (l.length : Int)) := (World.cell?_setCell_other _ _ _ _ (by intro e; simp only [Addr.mk.injEq] at e; omega)).trans h1
  have hk : ∀ o, (((w.setCell ⟨q, 0, none⟩ (.pointer (some ⟨w.heap.size, 0, none⟩))).setCell ⟨q, 1, none⟩ (.int .i64 ((l.length : Int) + n))).alloc (.cells #[.pointer a, .slice A n c] t)).cell? ⟨q, o, none⟩ = ((w.setCell ⟨q, 0, none⟩ (.pointer (some ⟨w.heap.size, 0, none⟩))).setCell ⟨q, 1, none⟩ (.int .i64 ((l.length : Int) + n))).cell? ⟨q, o, none⟩ :=
    fun o => grew_cell (grew_alloc _ _ _) (p := ⟨q, o, none⟩) (by rw [hs]; exact hq)
  have hf : ∀ o, (((w.setCell ⟨q, 0, none⟩ (.pointer (some ⟨w.heap.size, 0, none⟩))).setCell ⟨q, 1, none⟩ (.int .i64 ((l.length : Int) + n))).alloc (.cells #[.pointer a, .slice A n c] t)).frozen? ⟨q, o, none⟩ = w.frozen? ⟨q, o, none⟩ :=
    fun o => (Below.frozen (grew_alloc _ _ _) (p := ⟨q, o, none⟩) (by rw [hs]; exact hq)).trans (by rw [World.frozen?_setCell, World.frozen?_setCell])
  refine ⟨⟨Nat.lt_of_lt_of_le hq hT.size, some ⟨w.heap.size, 0, none⟩, (l.length : Int) + n, 0, ?_, ?_, ?_, (hf 0).trans f0, (hf 1).trans f1, (hf 2).trans f2, rfl, by rw [List.length_append, hb.1]; simp, ?_⟩, hT⟩
  · rw [hk, World.cell?_setCell_other _ _ _ _ (by intro e; simp only [Addr.mk.injEq] at e; omega)]
    exact World.cell?_setCell_same _ _ _ h0
  · rw [hk]
    exact World.cell?_setCell_same _ _ _ n1
  · rw [hk, World.cell?_setCell_other _ _ _ _ (by intro e; simp only [Addr.mk.injEq] at e; omega), World.cell?_setCell_other _ _ _ _ (by intro e; simp only [Addr.mk.injEq] at e; omega)]
    exact h2
  · refine Chain.cons (n := n) (c := c) hq (by simp [hs]) ?_ ?_ (hb.turn hT (fun _ a ha => by have := hA a ha; omega)) hA (fun x hx => by subst hx; exact hC.lt.2) (hC.turn hT (Nat.le_refl _))
    · rw [World.cell?_alloc_at _ _ _ _ hs.symm]; rfl
    · rw [World.cell?_alloc_at _ _ _ _ hs.symm]; rfl

def wLen (st : Option (List UInt8)) : Nat := match st with | none => 0 | some l => l.length
def AddPost (q : Nat) (st : Option (List UInt8)) (bs : List UInt8) (w : World) (e : Ending) (w' : World) : Prop := e = .returned (.tuple #[]) ∧ WR w' q (st.map (· ++ bs)) ∧ Turn q w w'

set_option maxHeartbeats 1000000 in
theorem add_any (q : Nat) (st : Option (List UInt8)) (A : Option Addr) (n c : Nat) (bs : List UInt8) (w : World) (hW : WR w q st) (hb : Bys w A n bs) (hA : Past q A) (hl : wLen st ≤ 1000000000) (hn : n ≤ 1000000000) :
    Calls Try.prog 42 #[.pointer (some ⟨q, 0, none⟩), .slice A n c] w (AddPost q st bs w) := by
  obtain ⟨hq, a, sz, e, h0, h1, h2, f0, f1, f2, h⟩ := hW
  have HB := Lib.hid hb
  have HA := Lib.hid hA
  clear hb hA
  cases st with
  | none =>
    subst h
    have HP : Hid (AddPost q none bs w (.returned (.tuple #[])) w) := ⟨rfl, ⟨hq, a, sz, 5, h0, h1, h2, f0, f1, f2, rfl⟩, Turn.refl _ _⟩
    go_enter Try.func42, Try.ntmps42
    go_wp2
    go_end0
    exact HP.out
  | some l =>
    obtain ⟨rfl, rfl, hC⟩ := h
    have HC := Lib.hid hC
    have hl2 : l.length ≤ 1000000000 := hl
    clear hC hl
    go_enter Try.func42, Try.ntmps42
    go_wp2
    go_end0
    obtain ⟨g1, g2⟩ := add_world (t := 59) (c := c) hq h0 h1 h2 f0 f1 f2 HC.out HB.out HA.out
    exact ⟨rfl, g1, g2⟩
end Go.Proofs.Ytfhfgninjelfbaa.NumK
