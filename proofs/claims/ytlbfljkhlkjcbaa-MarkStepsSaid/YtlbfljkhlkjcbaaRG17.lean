/- A book is spoiled, and nothing else. -/
import Derived.Test.YtlbfljkhlkjcbaaRG15
import Derived.Test.YtlbfljkhlkjcbaaRG3
import Derived.Test.YtlbfljkhlkjcbaaRG11
import Derived.Test.YtlbfljkhlkjcbaaRG8
import Derived.Deep.Slices
import Derived.Deep.CutBlock
import Derived.Test.YtlbfljkhlkjcbaaRG13
import Derived.Test.YtlbfljkhlkjcbaaRG12
import Derived.BigQuiet
import Derived.Test.YtlbfljkhlkjcbaaRG2
namespace Go.Proofs.Ytlbfljkhlkjcbaa.NumK
open Go.RowKit
set_option linter.unusedVariables false

/-- Of what was there nothing but two rows has turned. -/
def SameBut (A1 A2 : Option Addr) (w w' : World) : Prop := ∀ k, k < w.heap.size → A1.map (·.block) ≠ some k → A2.map (·.block) ≠ some k → w'.heap[k]? = w.heap[k]?

set_option maxRecDepth 100000 in
set_option maxHeartbeats 4000000 in
theorem spoilBook_same (nx : Int) (A1 A2 : Option Addr) (n1 n2 c1 c2 base : Nat) (w : World) (h1 : SpB A1 n1 7 base w.heap.size w) (h2 : SpB A2 n2 4 base w.heap.size w) (hb0 : base ≤ w.heap.size) (hn : n1 ≤ 1000000 ∧ n2 ≤ 1000000) :
    Calls Try.prog 21 #[vBk nx A1 A2 n1 n2 c1 c2] w fun e w' => e = .returned (.tuple #[]) ∧ Below base w w' ∧ SameBut A1 A2 w w' := by
  have H1 := Lib.hid h1
  have H2 := Lib.hid h2
  have HB0 := Lib.hid hb0
  clear h1 h2 hb0
  dsimp only [vBk]
  go_enter Try.func21, Try.ntmps21
  go_wp2
  go_loopw [2] (fun vi wr => ∃ k : Nat, vi = .int .i64 k ∧ k ≤ n1 ∧ Hid (SpB A1 n1 7 base w.heap.size wr) ∧ Hid (SpB A2 n2 4 base w.heap.size wr) ∧ Hid (Below base w wr ∧ ∀ k, k < w.heap.size → A1.map (·.block) ≠ some k → wr.heap[k]? = w.heap[k]?) ∧ Hid (OwnC wr w.heap.size [.int .i64 nx, .slice A1 n1 c1, .slice A2 n2 c2])) (fun vi _ => n1 - (intOf vi).toNat)
  case atStart => exact ⟨0, rfl, Nat.zero_le _, H1.out.keep (grew_alloc _ _ _), H2.out.keep (grew_alloc _ _ _), ⟨Below.mono (grew_alloc _ _ _) HB0.out, fun k hk _ => (grew_alloc w #[.int .i64 nx, .slice A1 n1 c1, .slice A2 n2 c2] 30).block k hk⟩, OwnC.new w [.int .i64 nx, .slice A1 n1 c1, .slice A2 n2 c2] _ _ rfl⟩
  case round =>
    obtain ⟨k, rfl, hk, HS1, HS2, HB, HC⟩ := hrel
    have x1 : wr.cell? ⟨w.heap.size, 1, none⟩ = some (.slice A1 n1 c1) := HC.out.at 1 _ rfl
    by_cases hlt : k < n1
    · have HSS := Lib.hid HS1.out
      obtain ⟨g, rfl, hb, hgN, hs⟩ : ∃ g, A1 = some ⟨g, 0, none⟩ ∧ base ≤ g ∧ g < w.heap.size ∧ Slab wr g (n1 * 7) := by
        rcases HSS.out with h | h
        · omega
        · exact h
      obtain ⟨⟨x, a1⟩, a2⟩ := hs.2 (k * 7) (by omega)
      have a3 : (k : Int) < (n1 : Int) := by omega
      have HB2 : Hid (Below base w (wr.setCell ⟨g, k * 7, none⟩ (.int .i64 (-77))) ∧ ∀ i, i < w.heap.size → (some (⟨g, 0, none⟩ : Addr)).map (·.block) ≠ some i → (wr.setCell ⟨g, k * 7, none⟩ (.int .i64 (-77))).heap[i]? = w.heap[i]?) :=
        ⟨Below.setCell HB.out.1 hb _, fun i hi1 hi => (Below.heap_setCell _ _ _ _ (by intro e; apply hi; rw [e]; rfl)).trans (HB.out.2 i hi1 hi)⟩
      have HT1 := Lib.hid (HS1.out.set g (k * 7) (.int .i64 (-77)))
      have HT2 := Lib.hid (HS2.out.set g (k * 7) (.int .i64 (-77)))
      have HC2 := Lib.hid (HC.out.other ⟨g, k * 7, none⟩ (.int .i64 (-77)) (by show g ≠ _; omega))
      clear HSS hs
      go_wp2
      go_roundw
      case rel => exact ⟨k + 1, by go_num, by omega, HT1.out, HT2.out, HB2, HC2.out⟩
      case measure => simp only [intOf]; omega
    · have hge : ¬ (k : Int) < (n1 : Int) := by omega
      have x2 : wr.cell? ⟨w.heap.size, 2, none⟩ = some (.slice A2 n2 c2) := HC.out.at 2 _ rfl
      have HSA : Hid (n2 = 0 ∨ ∃ g, A2 = some ⟨g, 0, none⟩ ∧ base ≤ g ∧ Slab wr g (n2 * 4)) := by
        rcases HS2.out with h | ⟨g, e, h1, h2, h3⟩
        · exact Or.inl h
        · exact Or.inr ⟨g, e, h1, h3⟩
      have CP := spoilPoss_any A2 n2 c2 base wr HSA.out hn.2
      clear hlt hk
      go_wp2_with (go_at_call 49; ((with_reducible refine CP.mono ?_); rintro e w5 ⟨rfl, hb, hs⟩; have HB5 : Hid (Below base w w5 ∧ SameBut A1 A2 w w5) := ⟨Below.trans HB.out.1 hb, fun k hk e1 e2 => (hs k e2).trans (HB.out.2 k hk e1)⟩; clear hb hs CP))
      go_end0
      exact ⟨rfl, HB5.out⟩
end Go.Proofs.Ytlbfljkhlkjcbaa.NumK
namespace Go.Proofs.Ytlbfljkhlkjcbaa.NumK
open Go.RowKit
set_option linter.unusedVariables false

def CDu (w : World) (b p : Nat) (x : Du) : Prop :=
  w.cell? ⟨b, p, none⟩ = some (.int .i64 x.1) ∧ w.cell? ⟨b, p + 1, none⟩ = some (.int .i64 x.2.1) ∧ w.cell? ⟨b, p + 2, none⟩ = some (.int .i64 x.2.2)
theorem CDu.keep {w w' : World} {b p : Nat} {x : Du} (h : CDu w b p x) (g : Grew w w') (hb : b < w.heap.size) : CDu w' b p x :=
  ⟨(grew_cell g (p := ⟨b, _, none⟩) hb).trans h.1, (grew_cell g (p := ⟨b, _, none⟩) hb).trans h.2.1, (grew_cell g (p := ⟨b, _, none⟩) hb).trans h.2.2⟩
theorem RowE.du {w : World} {n : Nat} {l : List Du} {A : Option Addr} (h : RowE enDu w A n l) {j : Nat} (hj : j < n) : ∃ b o, A = some ⟨b, o, none⟩ ∧ b < w.heap.size ∧ ∀ j, j < n → CDu w b (o + j * 3) (l.getD j du0) := by
  have hl := h.len
  obtain ⟨b, o, e, hb, hc⟩ := h.at (by omega)
  refine ⟨b, o, e, hb, fun j hj => ?_⟩
  have hj' : j < l.length := by omega
  rw [getD_at l du0 j hj']
  exact ⟨hc j hj' 0 (by decide), hc j hj' 1 (by decide), hc j hj' 2 (by decide)⟩

set_option maxRecDepth 100000 in
theorem keepDue_yes (x : Du) (w : World) : Calls Try.prog 48 #[vDu x, vDu x] w fun e w' => e = .returned (.bool true) ∧ Grew w w' := by
  obtain ⟨q1, q2, q3⟩ := x
  dsimp only [vDu]
  go_enter Try.func48, Try.ntmps48
  go_wp2
  go_ret
  exact ⟨rfl, grew_trans (grew_alloc _ _ _) (grew_alloc _ _ _)⟩

set_option maxRecDepth 100000 in
set_option maxHeartbeats 1000000 in
theorem keepDues_yes (A B : Option Addr) (n c d : Nat) (l : List Du) (w : World) (h : RowE enDu w A n l) (h2 : RowE enDu w B n l) (hn : n ≤ 1000000) :
    Calls Try.prog 20 #[.slice A n c, .slice B n d] w fun e w' => e = .returned (.bool true) ∧ Grew w w' := by
  have HI := Lib.hid h
  have HJ := Lib.hid h2
  clear h h2
  go_enter Try.func20, Try.ntmps20
  go_wp2
  go_loopw [5] (fun v wr => ∃ j : Nat, v = .int .i64 j ∧ j ≤ n ∧ Hid (Grew w wr)) (fun v _ => n - (intOf v).toNat)
  case atStart => exact ⟨0, rfl, by omega, grew_refl _⟩
  case round =>
    obtain ⟨j, rfl, hj, HG⟩ := hrel
    by_cases hlt : j < n
    · obtain ⟨b, o, rfl, hb, hc⟩ := (HI.out.keep HG.out).du hlt
      obtain ⟨b2, o2, rfl, hb2, hc2⟩ := (HJ.out.keep HG.out).du hlt
      obtain ⟨a0, a1, a2⟩ := hc j hlt
      obtain ⟨e0, e1, e2⟩ := hc2 j hlt
      clear hc hc2
      have i0 : (0 : Int) ≤ (j : Int) := by omega
      have i1 : (j : Int) < (n : Int) := by omega
      have CK := fun w => keepDue_yes (l.getD j du0) w
      generalize l.getD j du0 = x at *
      obtain ⟨q1, q2, q3⟩ := x
      dsimp only at a0 a1 a2  e0 e1 e2
      dsimp only [vDu] at CK
      have x0 : ∀ p : GrewTo wr, p.to.cell? ⟨b, o + j * 3, none⟩ = _ := fun p => (grew_cell p.h (p := ⟨b, _, none⟩) hb).trans a0; have x1 : ∀ p : GrewTo wr, p.to.cell? ⟨b, o + j * 3 + 1, none⟩ = _ := fun p => (grew_cell p.h (p := ⟨b, _, none⟩) hb).trans a1; have x2 : ∀ p : GrewTo wr, p.to.cell? ⟨b, o + j * 3 + 2, none⟩ = _ := fun p => (grew_cell p.h (p := ⟨b, _, none⟩) hb).trans a2
      have y0 : ∀ p : GrewTo wr, p.to.cell? ⟨b2, o2 + j * 3, none⟩ = _ := fun p => (grew_cell p.h (p := ⟨b2, _, none⟩) hb2).trans e0; have y1 : ∀ p : GrewTo wr, p.to.cell? ⟨b2, o2 + j * 3 + 1, none⟩ = _ := fun p => (grew_cell p.h (p := ⟨b2, _, none⟩) hb2).trans e1; have y2 : ∀ p : GrewTo wr, p.to.cell? ⟨b2, o2 + j * 3 + 2, none⟩ = _ := fun p => (grew_cell p.h (p := ⟨b2, _, none⟩) hb2).trans e2
      clear a0 a1 a2  e0 e1 e2  hb hb2
      go_wp2_with fail
      refine wp_region_grew (by kernel_rfl) (by kernel_rfl) ?_
      repeat (go_big_quiet_step (with_reducible exact calls_grew (CK _)))
      refine wpQuiet_nil ?_
      intro w5 hw'
      have HG5 := Lib.hid (grew_of hw')
      clear hw' x0 x1 x2  y0 y1 y2
      go_wp2
      go_roundw
      case rel => exact ⟨j + 1, by go_num, by omega, grew_trans HG.out HG5.out⟩
      case measure => simp only [intOf]; omega
    · obtain rfl : j = n := by omega
      go_wp2
      go_ret
      exact ⟨rfl, HG.out⟩

/-- Positions written over: only their own block is turned. -/
theorem spoilDues_any (A : Option Addr) (n c base : Nat) (w : World) (hA : n = 0 ∨ ∃ g, A = some ⟨g, 0, none⟩ ∧ base ≤ g ∧ Slab w g (n * 3)) (hn : n ≤ 1000000) :
    Calls Try.prog 22 #[.slice A n c] w fun e w' => e = .returned (.tuple #[]) ∧ Below base w w' ∧ ∀ k, A.map (·.block) ≠ some k → w'.heap[k]? = w.heap[k]? := by
  have HA := Lib.hid hA
  clear hA
  go_enter Try.func22, Try.ntmps22
  go_wp2
  go_loopw [2] (fun vi wr => ∃ k : Nat, vi = .int .i64 k ∧ k ≤ n ∧ Hid (∀ g, A = some ⟨g, 0, none⟩ → 0 < n → Slab wr g (n * 3)) ∧ Hid (Below base w wr ∧ ∀ k, A.map (·.block) ≠ some k → wr.heap[k]? = w.heap[k]?)) (fun vi _ => n - (intOf vi).toNat)
  case atStart =>
    refine ⟨0, rfl, Nat.zero_le _, fun g hg h0 => ?_, Below.refl _ _, fun _ _ => rfl⟩
    rcases HA.out with h | ⟨g', e, _, hs⟩
    · omega
    · rw [hg] at e; cases e; exact hs
  case round =>
    obtain ⟨k, rfl, hk, HS, HB⟩ := hrel
    by_cases hlt : k < n
    · obtain ⟨g, rfl, hb, _⟩ : ∃ g, A = some ⟨g, 0, none⟩ ∧ base ≤ g ∧ Slab w g (n * 3) := by
        rcases HA.out with h | h
        · omega
        · exact h
      have HS2 := Lib.hid (HS.out g rfl (by omega))
      obtain ⟨⟨x, a1⟩, a2⟩ := HS2.out.2 (k * 3) (by omega)
      have a3 : (k : Int) < (n : Int) := by omega
      have HB2 : Hid (Below base w (wr.setCell ⟨g, k * 3, none⟩ (.int .i64 (-77))) ∧ ∀ i, (some (⟨g, 0, none⟩ : Addr)).map (·.block) ≠ some i → (wr.setCell ⟨g, k * 3, none⟩ (.int .i64 (-77))).heap[i]? = w.heap[i]?) :=
        ⟨Below.setCell HB.out.1 hb _, fun i hi => (Below.heap_setCell _ _ _ _ (by intro e; apply hi; rw [e]; rfl)).trans (HB.out.2 i hi)⟩
      have HS3 := Lib.hid (HS2.out.set g (k * 3) (.int .i64 (-77)))
      go_wp2
      go_roundw
      case rel => exact ⟨k + 1, by go_num, by omega, fun g' hg' _ => by cases hg'; exact HS3.out, HB2⟩
      case measure => simp only [intOf]; omega
    · go_wp2
      go_end0
      exact ⟨rfl, HB.out⟩

set_option maxRecDepth 100000 in
theorem wakes14_any (w : World) : Calls Try.prog 24 #[] w fun e w' => e = .returned (.bool true) ∧ Grew w w' := by
  have C := fun w => worth_any (1, 3, 5, 50) 10 12 w
  have e1 : worthN (1, 3, 5, 50) 10 12 = 100 := by decide
  have e2 : worthE (1, 3, 5, 50) 10 12 = 0 := by decide
  rw [e1, e2] at C
  clear e1 e2
  dsimp only [vPo] at C
  go_enter Try.func24, Try.ntmps24
  go_wp2_with (go_at_call 10; ((with_reducible refine (C _).mono ?_); rintro e w1 ⟨rfl, hg⟩; have HG := Lib.hid hg; clear hg))
  go_ret
  exact ⟨rfl, HG.out⟩
end Go.Proofs.Ytlbfljkhlkjcbaa.NumK
namespace Go.Proofs.Ytlbfljkhlkjcbaa.NumK
open Go.RowKit Go.ChangeShapes Go.WideShapes
set_option linter.unusedVariables false

/-! ### rolls among the arguments -/
abbrev spI : Sp Int := spInt .i64
abbrev spMb : Sp Mb := spPair spI (spPair spI spI)
abbrev spAs : Sp As := spPair spI (spPair spI (spPair spI spI))
abbrev spSh : Sp (List Int) := spArr 6 spI
abbrev spInA : Sp (Int × Int × Int × Int × Int × Int × List Int) := spPair spI (spPair spI (spPair spI (spPair spI (spPair spI (spPair spI spSh)))))
def toIn (x : Int × Int × Int × Int × Int × Int × List Int) : In :=
  ((x.1, x.2.1, x.2.2.1, x.2.2.2.1, x.2.2.2.2.1, x.2.2.2.2.2.1), (x.2.2.2.2.2.2.getD 0 0, x.2.2.2.2.2.2.getD 1 0, x.2.2.2.2.2.2.getD 2 0, x.2.2.2.2.2.2.getD 3 0, x.2.2.2.2.2.2.getD 4 0, x.2.2.2.2.2.2.getD 5 0))
theorem opens_i : Opens Try.prog 3 spI := opens_int Try.underlying3 (by kernel_rfl)
theorem opens_member : Opens Try.prog 108 spMb :=
  opens_struct Try.underlying108 (by kernel_rfl) (Fs.cons _ _ 0 rfl opens_i (Fs.cons _ _ 1 rfl opens_i (Fs.last _ 2 rfl opens_i)))
theorem opens_asset : Opens Try.prog 116 spAs :=
  opens_struct Try.underlying116 (by kernel_rfl) (Fs.cons _ _ 0 rfl opens_i (Fs.cons _ _ 1 rfl opens_i (Fs.cons _ _ 2 rfl opens_i (Fs.last _ 3 rfl opens_i))))
theorem opens_shifts : Opens Try.prog 35 spSh := opens_arr Try.underlying35 (by kernel_rfl) opens_i
theorem opens_instA : Opens Try.prog 37 spInA :=
  opens_struct Try.underlying37 (by kernel_rfl) (Fs.cons _ _ 0 rfl opens_i (Fs.cons _ _ 1 rfl opens_i (Fs.cons _ _ 2 rfl opens_i (Fs.cons _ _ 3 rfl opens_i (Fs.cons _ _ 4 rfl opens_i (Fs.cons _ _ 5 rfl opens_i (Fs.last _ 6 rfl opens_shifts)))))))

theorem sh_cells {w : World} {cs : List Value} {l : List Int} (h : spSh.rd w cs l) : cs = [.int .i64 (l.getD 0 0), .int .i64 (l.getD 1 0), .int .i64 (l.getD 2 0), .int .i64 (l.getD 3 0), .int .i64 (l.getD 4 0), .int .i64 (l.getD 5 0)] := by
  obtain ⟨h1, h2, h3⟩ := h
  have h2 : cs.length = 6 := h2
  have e : ∀ j (hj : j < 6), cs[j]'(by omega) = .int .i64 (l.getD j 0) := by
    intro j hj
    have h4 : ((cs.drop (j * 1)).take 1) = [.int .i64 l[j]] := (h3 j (by omega)).1
    rw [Nat.mul_one] at h4
    have h5 : ((cs.drop j).take 1)[0]? = some (.int .i64 l[j]) := by rw [h4]; rfl
    rw [List.getElem?_take, if_pos (by omega), List.getElem?_drop, Nat.add_zero, List.getElem?_eq_getElem (by omega)] at h5
    rw [Option.some.inj h5]
    simp [List.getD, show j < l.length by omega]
  obtain ⟨a, b, c, d, x, y, rfl⟩ : ∃ a b c d x y, cs = [a, b, c, d, x, y] := by
    match cs, h2 with
    | [a, b, c, d, x, y], _ => exact ⟨a, b, c, d, x, y, rfl⟩
  · have e0 : a = _ := e 0 (by omega); have e1 : b = _ := e 1 (by omega); have e2 : c = _ := e 2 (by omega); have e3 : d = _ := e 3 (by omega); have e4 : x = _ := e 4 (by omega); have e5 : y = _ := e 5 (by omega)
    rw [e0, e1, e2, e3, e4, e5]
theorem in_cells {w : World} {cs : List Value} {a} (h : spInA.rd w cs a) : cs = enIn.cs (toIn a) := by
  obtain ⟨c1, d1, rfl, ⟨rfl, _⟩, c2, d2, rfl, ⟨rfl, _⟩, c3, d3, rfl, ⟨rfl, _⟩, c4, d4, rfl, ⟨rfl, _⟩, c5, d5, rfl, ⟨rfl, _⟩, c6, d6, rfl, ⟨rfl, _⟩, hs⟩ := h
  have := sh_cells hs
  subst this
  rfl
def spIn : Sp In := spMap toIn spInA
theorem opens_inst : Opens Try.prog 37 spIn := opens_map toIn opens_instA
theorem in_rd {w : World} {cs : List Value} {a : In} (h : spIn.rd w cs a) : cs = enIn.cs a := by
  obtain ⟨x, hx, rfl⟩ := h
  exact in_cells hx
theorem mb_rd {w : World} {cs : List Value} {a : Mb} (h : spMb.rd w cs a) : cs = enMb.cs a := by
  obtain ⟨c1, d1, rfl, ⟨rfl, _⟩, c2, d2, rfl, ⟨rfl, _⟩, rfl, _⟩ := h
  rfl
theorem as_rd {w : World} {cs : List Value} {a : As} (h : spAs.rd w cs a) : cs = enAs.cs a := by
  obtain ⟨c1, d1, rfl, ⟨rfl, _⟩, c2, d2, rfl, ⟨rfl, _⟩, c3, d3, rfl, ⟨rfl, _⟩, rfl, _⟩ := h
  rfl
theorem rowE_of {α : Type} {A : Sp α} {E : En α} (hs : E.size = A.size) (hf : ∀ w cs a, A.rd w cs a → cs = E.cs a) {w : World} {ad : Option Addr} {n : Nat} {l : List α} (h : Row A w ad n l) : RowE E w ad n l := by
  have := Row.imp (A := A) (B := E.sp) (fun x => x) hs (fun cs a hr => hf w cs a hr) h
  rwa [List.map_id'] at this
theorem inst_of {w : World} {cs : Array Value} {a : In} (h : spIn.rd w cs.toList a) : Value.agg cs = vIn a := by
  have := in_rd h
  congr 1
  exact Array.toList_inj.1 (by rw [this]; rfl)
abbrev spRl : Sp Rl := spPair (spSlice spMb) (spPair (spSlice spIn) (spSlice spAs))
theorem opens_members : Opens Try.prog 22 (spSlice spMb) := opens_slice Try.underlying22 (by kernel_rfl) opens_member (by decide)
theorem opens_insts : Opens Try.prog 23 (spSlice spIn) := opens_slice Try.underlying23 (by kernel_rfl) opens_inst (by decide)
theorem opens_assets : Opens Try.prog 24 (spSlice spAs) := opens_slice Try.underlying24 (by kernel_rfl) opens_asset (by decide)
theorem opens_roll : Opens Try.prog 26 spRl :=
  opens_struct Try.underlying26 (by kernel_rfl) (Fs.cons _ _ 0 rfl opens_members (Fs.cons _ _ 1 rfl opens_insts (Fs.last _ 2 rfl opens_assets)))
theorem roll_of {w : World} {cs : Array Value} {r : Rl} (h : spRl.rd w cs.toList r) : ∃ A1 A2 A3 n1 n2 n3 c1 c2 c3, Value.agg cs = rlV A1 A2 A3 n1 n2 n3 c1 c2 c3 ∧ In3 w r A1 A2 A3 n1 n2 n3 c1 c2 c3 := by
  obtain ⟨x1, y1, e, ⟨A1, n1, c1, rfl, hr1, hk1, hl1, hm1⟩, x2, y2, rfl, ⟨A2, n2, c2, rfl, hr2, hk2, hl2, hm2⟩, A3, n3, c3, rfl, hr3, hk3, hl3, hm3⟩ := h
  unfold maxLen at hm1 hm2 hm3
  refine ⟨A1, A2, A3, n1, n2, n3, c1, c2, c3, ?_, ⟨rowE_of rfl (fun _ _ _ => mb_rd) hr1, rowE_of rfl (fun _ _ _ => in_rd) hr2, rowE_of rfl (fun _ _ _ => as_rd) hr3⟩, hk1, hk2, hk3, ⟨hl1, by omega⟩, ⟨hl2, by omega⟩, ⟨hl3, by omega⟩⟩
  congr 1
  exact Array.toList_inj.1 (by rw [e]; rfl)
/-! ### Heavy -/
def heavyR (n1 n2 n3 : Nat) : Bool := decide (n1 > 100) || (decide (n2 > 100) || decide (n3 > 100))
set_option maxRecDepth 100000 in
theorem heavy11_any (A1 A2 A3 : Option Addr) (n1 n2 n3 c1 c2 c3 : Nat) (w : World) :
    Calls Try.prog 8 #[rlV A1 A2 A3 n1 n2 n3 c1 c2 c3] w fun e w' => e = .returned (.bool (heavyR n1 n2 n3)) ∧ Grew w w' := by
  have HH : Hid (heavyR n1 n2 n3 = (decide (n1 > 100) || (decide (n2 > 100) || decide (n3 > 100)))) := rfl
  generalize heavyR n1 n2 n3 = H at *
  dsimp only [rlV]
  by_cases h1 : n1 > 100
  · have HF : Hid (H = true) := by show _ = _; rw [HH.out, decide_eq_true h1]; rfl
    have j1 : (n1 : Int) > 100 := by omega
    go_enter Try.func8, Try.ntmps8
    go_wp2
    go_ret
    exact ⟨ret_b HF.out.symm, grew_alloc _ _ _⟩
  · have j1 : ¬ (n1 : Int) > 100 := by omega
    by_cases h2 : n2 > 100
    · have HF : Hid (H = true) := by show _ = _; rw [HH.out, decide_eq_true h2]; simp
      have j2 : (n2 : Int) > 100 := by omega
      go_enter Try.func8, Try.ntmps8
      go_wp2
      go_ret
      exact ⟨ret_b HF.out.symm, grew_alloc _ _ _⟩
    · have j2 : ¬ (n2 : Int) > 100 := by omega
      by_cases h3 : n3 > 100
      · have HF : Hid (H = true) := by show _ = _; rw [HH.out, decide_eq_true h3]; simp
        have j3 : (n3 : Int) > 100 := by omega
        go_enter Try.func8, Try.ntmps8
        go_wp2
        go_ret
        exact ⟨ret_b HF.out.symm, grew_alloc _ _ _⟩
      · have HF : Hid (H = false) := by show _ = _; rw [HH.out, decide_eq_false h1, decide_eq_false h2, decide_eq_false h3]; rfl
        have j3 : ¬ (n3 : Int) > 100 := by omega
        go_enter Try.func8, Try.ntmps8
        go_wp2
        go_ret
        exact ⟨ret_b HF.out.symm, grew_alloc _ _ _⟩
end Go.Proofs.Ytlbfljkhlkjcbaa.NumK
namespace Go.Proofs.Ytlbfljkhlkjcbaa.NumK
open Go.RowKit
set_option linter.unusedVariables false

set_option maxRecDepth 100000 in
set_option maxHeartbeats 4000000 in
theorem twinRoll_any (r : Rl) (A1 A2 A3 : Option Addr) (n1 n2 n3 c1 c2 c3 : Nat) (w : World) (h : In3 w r A1 A2 A3 n1 n2 n3 c1 c2 c3) (hn : n1 ≤ 1000000 ∧ n2 ≤ 1000000 ∧ n3 ≤ 1000000) :
    Calls Try.prog 15 #[rlV A1 A2 A3 n1 n2 n3 c1 c2 c3] w (RollQ r w) := by
  have HI := Lib.hid h
  have HL1 := Lib.hid h.rows.m.len
  have HL2 := Lib.hid h.rows.i.len
  have HL3 := Lib.hid h.rows.h.len
  clear h
  dsimp only [rlV]
  go_enter Try.func15, Try.ntmps15
  go_upto_region 2 with fail
  have HG0 : Hid (Grew w (((w.alloc (.cells #[.slice A1 n1 c1, .slice A2 n2 c2, .slice A3 n3 c3] 26)).alloc (.cells #[.slice none 0 0, .slice none 0 0, .slice none 0 0] 26)).alloc (.cells #[.slice none 0 0, .slice none 0 0, .slice none 0 0] 26))) := grew_trans (grew_trans (grew_alloc _ _ _) (grew_alloc _ _ _)) (grew_alloc _ _ _)
  have HX0 : Hid (OwnC (((w.alloc (.cells #[.slice A1 n1 c1, .slice A2 n2 c2, .slice A3 n3 c3] 26)).alloc (.cells #[.slice none 0 0, .slice none 0 0, .slice none 0 0] 26)).alloc (.cells #[.slice none 0 0, .slice none 0 0, .slice none 0 0] 26)) w.heap.size [.slice A1 n1 c1, .slice A2 n2 c2, .slice A3 n3 c3]) := ((OwnC.new w [.slice A1 n1 c1, .slice A2 n2 c2, .slice A3 n3 c3] _ _ rfl).keep (grew_alloc _ _ _)).keep (grew_alloc _ _ _)
  have HY0 : Hid (OwnC (((w.alloc (.cells #[.slice A1 n1 c1, .slice A2 n2 c2, .slice A3 n3 c3] 26)).alloc (.cells #[.slice none 0 0, .slice none 0 0, .slice none 0 0] 26)).alloc (.cells #[.slice none 0 0, .slice none 0 0, .slice none 0 0] 26)) (w.heap.size + 1) [.slice none 0 0, .slice none 0 0, .slice none 0 0]) := (OwnC.new _ [.slice none 0 0, .slice none 0 0, .slice none 0 0] _ _ (by simp)).keep (grew_alloc _ _ _)
  have HZ0 : Hid (OwnC (((w.alloc (.cells #[.slice A1 n1 c1, .slice A2 n2 c2, .slice A3 n3 c3] 26)).alloc (.cells #[.slice none 0 0, .slice none 0 0, .slice none 0 0] 26)).alloc (.cells #[.slice none 0 0, .slice none 0 0, .slice none 0 0] 26)) (w.heap.size + 1 + 1) [.slice none 0 0, .slice none 0 0, .slice none 0 0]) := OwnC.new _ [.slice none 0 0, .slice none 0 0, .slice none 0 0] _ _ (by simp)
  have HSZ : Hid (w.heap.size + 3 ≤ (((w.alloc (.cells #[.slice A1 n1 c1, .slice A2 n2 c2, .slice A3 n3 c3] 26)).alloc (.cells #[.slice none 0 0, .slice none 0 0, .slice none 0 0] 26)).alloc (.cells #[.slice none 0 0, .slice none 0 0, .slice none 0 0] 26)).heap.size) := by show _ ≤ _; simp
  generalize (((w.alloc (.cells #[.slice A1 n1 c1, .slice A2 n2 c2, .slice A3 n3 c3] 26)).alloc (.cells #[.slice none 0 0, .slice none 0 0, .slice none 0 0] 26)).alloc (.cells #[.slice none 0 0, .slice none 0 0, .slice none 0 0] 26)) = w0 at *
  have x0 : w0.cell? ⟨w.heap.size, 0, none⟩ = some (.slice A1 n1 c1) := HX0.out.at 0 _ rfl
  have z0 : w0.cell? ⟨w.heap.size + 1 + 1, 0, none⟩ = some (.slice none 0 0) := HZ0.out.at 0 _ rfl
  go_upto_region 5 with (first
    | (at_builtin; refine (wpList_append_E rfl _ _ 22 108 (vMb mb0) 24 rfl Try.underlying22 info_mb rfl (w0).heap.size _ [] rfl (OwnE.nil enMb _ _ _) A1 n1 c1 r.1 rfl HI.out.k1 (HI.out.rows.m.keep HG0.out) (by simp; unfold maxLen; omega) (by simp; omega) (Nat.le_refl _) ?_); intro v' w1 ho hb; rw [List.nil_append] at ho; obtain ⟨B1, d1, rfl, -⟩ := ho.form; have HBk1 := Lib.hid ho.block; have HSk1 := Lib.hid hb.size; have HX1 := Lib.hid ((HX0.out).keep hb); have HY1 := Lib.hid ((HY0.out).keep hb); have HZp := ((HZ0.out).keep hb); have z0f : w1.frozen? ⟨w.heap.size + 1 + 1, 0, none⟩ = false := HZp.fr 0 (by show 0 < 3; omega); have z0c : w1.cell? ⟨w.heap.size + 1 + 1, 0, none⟩ = some (.slice none 0 0) := HZp.at 0 _ rfl; have z1c : w1.cell? ⟨w.heap.size + 1 + 1, 1, none⟩ = some (.slice none 0 0) := HZp.at 1 _ rfl; have x1 : w1.cell? ⟨w.heap.size, 1, none⟩ = some (.slice A2 n2 c2) := HX1.out.at 1 _ rfl; have HZ1 := Lib.hid (HZp.set 0 (.slice B1 r.1.length d1) (by show 0 < 3; omega)); have HX1 := Lib.hid (HX1.out.other ⟨w.heap.size + 1 + 1, 0, none⟩ (.slice B1 r.1.length d1) (by show _ + 1 + 1 ≠ _; omega)); have HY1 := Lib.hid (HY1.out.other ⟨w.heap.size + 1 + 1, 0, none⟩ (.slice B1 r.1.length d1) (by show _ + 1 + 1 ≠ _; omega)); have HGp : Hid (Grew w w1) := grew_trans HG0.out hb; have HGs1 : Hid (Grew w (w1.setCell ⟨w.heap.size + 1 + 1, 0, none⟩ (.slice B1 r.1.length d1))) := grew_set HGp.out _ (by show _ ≤ _ + 1 + 1; omega); have HSZ1 : Hid (w.heap.size + 3 ≤ (w1.setCell ⟨w.heap.size + 1 + 1, 0, none⟩ (.slice B1 r.1.length d1)).heap.size) := le_set _ _ (Nat.le_trans HSZ.out hb.size); have HO1 := Lib.hid ((ho.mono HSZ.out).set (w.heap.size + 1 + 1) 0 (.slice B1 r.1.length d1) (by omega)); clear ho hb HZp HGp)
    | (at_builtin; refine (wpList_append_E rfl _ _ 23 37 (vIn in0) 96 rfl Try.underlying23 info_in rfl ((w1.setCell ⟨w.heap.size + 1 + 1, 0, none⟩ (.slice B1 r.1.length d1))).heap.size _ [] rfl (OwnE.nil enIn _ _ _) A2 n2 c2 r.2.1 rfl HI.out.k2 (HI.out.rows.i.keep HGs1.out) (by simp; unfold maxLen; omega) (by simp; omega) (Nat.le_refl _) ?_); intro v' w2 ho hb; rw [List.nil_append] at ho; obtain ⟨B2, d2, rfl, -⟩ := ho.form; have HBk2 := Lib.hid ho.block; have HSk2 := Lib.hid hb.size; have HA12 := Lib.hid (apart_of HBk1.out HBk2.out (Nat.le_of_eq (size_set _ _ _).symm)); have HX2 := Lib.hid ((HX1.out).keep hb); have HY2 := Lib.hid ((HY1.out).keep hb); have HZp := ((HZ1.out).keep hb); have z1f : w2.frozen? ⟨w.heap.size + 1 + 1, 1, none⟩ = false := HZp.fr 1 (by show 1 < 3; omega); have z1c : w2.cell? ⟨w.heap.size + 1 + 1, 1, none⟩ = some (.slice none 0 0) := HZp.at 1 _ rfl; have z2c : w2.cell? ⟨w.heap.size + 1 + 1, 2, none⟩ = some (.slice none 0 0) := HZp.at 2 _ rfl; have x2 : w2.cell? ⟨w.heap.size, 2, none⟩ = some (.slice A3 n3 c3) := HX2.out.at 2 _ rfl; have HZ2 := Lib.hid (HZp.set 1 (.slice B2 r.2.1.length d2) (by show 1 < 3; omega)); have HX2 := Lib.hid (HX2.out.other ⟨w.heap.size + 1 + 1, 1, none⟩ (.slice B2 r.2.1.length d2) (by show _ + 1 + 1 ≠ _; omega)); have HY2 := Lib.hid (HY2.out.other ⟨w.heap.size + 1 + 1, 1, none⟩ (.slice B2 r.2.1.length d2) (by show _ + 1 + 1 ≠ _; omega)); have HGp : Hid (Grew w w2) := grew_trans HGs1.out hb; have HGs2 : Hid (Grew w (w2.setCell ⟨w.heap.size + 1 + 1, 1, none⟩ (.slice B2 r.2.1.length d2))) := grew_set HGp.out _ (by show _ ≤ _ + 1 + 1; omega); have HSZ2 : Hid (w.heap.size + 3 ≤ (w2.setCell ⟨w.heap.size + 1 + 1, 1, none⟩ (.slice B2 r.2.1.length d2)).heap.size) := le_set _ _ (Nat.le_trans HSZ1.out hb.size); have HO2 := Lib.hid ((ho.mono HSZ1.out).set (w.heap.size + 1 + 1) 1 (.slice B2 r.2.1.length d2) (by omega)); have HO1 := Lib.hid ((HO1.out.keep hb).set (w.heap.size + 1 + 1) 1 (.slice B2 r.2.1.length d2) (by omega)); clear ho hb HZp HGp)
    | (at_builtin; refine (wpList_append_E rfl _ _ 24 116 (vAs as0) 32 rfl Try.underlying24 info_as rfl ((w2.setCell ⟨w.heap.size + 1 + 1, 1, none⟩ (.slice B2 r.2.1.length d2))).heap.size _ [] rfl (OwnE.nil enAs _ _ _) A3 n3 c3 r.2.2 rfl HI.out.k3 (HI.out.rows.h.keep HGs2.out) (by simp; unfold maxLen; omega) (by simp; omega) (Nat.le_refl _) ?_); intro v' w3 ho hb; rw [List.nil_append] at ho; obtain ⟨B3, d3, rfl, -⟩ := ho.form; have HBk3 := Lib.hid ho.block; have HSk3 := Lib.hid hb.size; have HA23 := Lib.hid (apart_of HBk2.out HBk3.out (Nat.le_of_eq (size_set _ _ _).symm)); have HA13 := Lib.hid (apart_of HBk1.out HBk3.out (by rw [size_set]; have := HSk2.out; rw [size_set] at this; exact this)); have HX3 := Lib.hid ((HX2.out).keep hb); have HY3 := Lib.hid ((HY2.out).keep hb); have HZp := ((HZ2.out).keep hb); have z2f : w3.frozen? ⟨w.heap.size + 1 + 1, 2, none⟩ = false := HZp.fr 2 (by show 2 < 3; omega); have z2c : w3.cell? ⟨w.heap.size + 1 + 1, 2, none⟩ = some (.slice none 0 0) := HZp.at 2 _ rfl; have HZ3 := Lib.hid (HZp.set 2 (.slice B3 r.2.2.length d3) (by show 2 < 3; omega)); have HX3 := Lib.hid (HX3.out.other ⟨w.heap.size + 1 + 1, 2, none⟩ (.slice B3 r.2.2.length d3) (by show _ + 1 + 1 ≠ _; omega)); have HY3 := Lib.hid (HY3.out.other ⟨w.heap.size + 1 + 1, 2, none⟩ (.slice B3 r.2.2.length d3) (by show _ + 1 + 1 ≠ _; omega)); have HGp : Hid (Grew w w3) := grew_trans HGs2.out hb; have HGs3 : Hid (Grew w (w3.setCell ⟨w.heap.size + 1 + 1, 2, none⟩ (.slice B3 r.2.2.length d3))) := grew_set HGp.out _ (by show _ ≤ _ + 1 + 1; omega); have HSZ3 : Hid (w.heap.size + 3 ≤ (w3.setCell ⟨w.heap.size + 1 + 1, 2, none⟩ (.slice B3 r.2.2.length d3)).heap.size) := le_set _ _ (Nat.le_trans HSZ2.out hb.size); have HO3 := Lib.hid ((ho.mono HSZ2.out).set (w.heap.size + 1 + 1) 2 (.slice B3 r.2.2.length d3) (by omega)); have HO1 := Lib.hid ((HO1.out.keep hb).set (w.heap.size + 1 + 1) 2 (.slice B3 r.2.2.length d3) (by omega)); have HO2 := Lib.hid ((HO2.out.keep hb).set (w.heap.size + 1 + 1) 2 (.slice B3 r.2.2.length d3) (by omega)); clear ho hb HZp HGp))
  have HZ := Lib.hid HZ3.out
  have q0 : (w3.setCell ⟨w.heap.size + 1 + 1, 2, none⟩ (.slice B3 r.2.2.length d3)).cell? ⟨w.heap.size + 1 + 1, 0, none⟩ = some (.slice B1 r.1.length d1) := HZ3.out.at 0 _ rfl
  have q1 : (w3.setCell ⟨w.heap.size + 1 + 1, 2, none⟩ (.slice B3 r.2.2.length d3)).cell? ⟨w.heap.size + 1 + 1, 1, none⟩ = some (.slice B2 r.2.1.length d2) := HZ3.out.at 1 _ rfl
  have q2 : (w3.setCell ⟨w.heap.size + 1 + 1, 2, none⟩ (.slice B3 r.2.2.length d3)).cell? ⟨w.heap.size + 1 + 1, 2, none⟩ = some (.slice B3 r.2.2.length d3) := HZ3.out.at 2 _ rfl
  generalize w3.setCell ⟨w.heap.size + 1 + 1, 2, none⟩ (.slice B3 r.2.2.length d3) = w8 at *
  have y0 : w8.cell? ⟨w.heap.size + 1, 0, none⟩ = some (.slice none 0 0) := HY3.out.at 0 _ rfl
  have y1 : w8.cell? ⟨w.heap.size + 1, 1, none⟩ = some (.slice none 0 0) := HY3.out.at 1 _ rfl
  have y2 : w8.cell? ⟨w.heap.size + 1, 2, none⟩ = some (.slice none 0 0) := HY3.out.at 2 _ rfl
  have f0 : w8.frozen? ⟨w.heap.size + 1, 0, none⟩ = false := HY3.out.fr 0 (by decide)
  have f1 : w8.frozen? ⟨w.heap.size + 1, 1, none⟩ = false := HY3.out.fr 1 (by decide)
  have f2 : w8.frozen? ⟨w.heap.size + 1, 2, none⟩ = false := HY3.out.fr 2 (by decide)
  go_wp2
  have HP := HY3.out.all [Value.slice B1 r.1.length d1, .slice B2 r.2.1.length d2, .slice B3 r.2.2.length d3] rfl
  have HGP := grew_put (w.heap.size + 1) (Nat.le_succ _) [Value.slice B1 r.1.length d1, .slice B2 r.2.1.length d2, .slice B3 r.2.2.length d3] 0 _ HGs3.out
  have hb : w.heap.size + 1 < w.heap.size + 3 := by omega
  have P1 := OwnE.put hb [Value.slice B1 r.1.length d1, .slice B2 r.2.1.length d2, .slice B3 r.2.2.length d3] 0 _ HO1.out
  have P2 := OwnE.put hb [Value.slice B1 r.1.length d1, .slice B2 r.2.1.length d2, .slice B3 r.2.2.length d3] 0 _ HO2.out
  have P3 := OwnE.put hb [Value.slice B1 r.1.length d1, .slice B2 r.2.1.length d2, .slice B3 r.2.2.length d3] 0 _ HO3.out
  change bodyPost _ _ _ _ _ (putC w8 (w.heap.size + 1) 0 [.slice B1 r.1.length d1, .slice B2 r.2.1.length d2, .slice B3 r.2.2.length d3])
  generalize putC w8 (w.heap.size + 1) 0 [.slice B1 r.1.length d1, .slice B2 r.2.1.length d2, .slice B3 r.2.2.length d3] = w9 at *
  have z0 : w9.cell? ⟨w.heap.size + 1, 0, none⟩ = _ := HP.at 0 _ rfl
  have z1 : w9.cell? ⟨w.heap.size + 1, 1, none⟩ = _ := HP.at 1 _ rfl
  have z2 : w9.cell? ⟨w.heap.size + 1, 2, none⟩ = _ := HP.at 2 _ rfl
  refine bodyPost_ret (v := .agg #[.slice B1 r.1.length d1, .slice B2 r.2.1.length d2, .slice B3 r.2.2.length d3]) (by simp [results, Try.results15, go_sem, z0, z1, z2]) rfl ?_
  exact ⟨B1, B2, B3, d1, d2, d3, rfl, ⟨⟨P1.mono (by omega), P2.mono (by omega), P3.mono (by omega)⟩, HA12.out, HA13.out, HA23.out⟩, HGP⟩
end Go.Proofs.Ytlbfljkhlkjcbaa.NumK
namespace Go.Proofs.Ytlbfljkhlkjcbaa.NumK
open Go.RowKit
set_option linter.unusedVariables false

set_option maxRecDepth 100000 in
set_option maxHeartbeats 1000000 in
theorem heavy_any (nx : Int) (A1 A2 : Option Addr) (n1 n2 c1 c2 : Nat) (w : World) :
    Calls Try.prog 9 #[vBk nx A1 A2 n1 n2 c1 c2] w fun e w' => e = .returned (.bool (decide (300 < n1) || decide (300 < n2))) ∧ Grew w w' := by
  dsimp only [vBk]
  go_enter Try.func9, Try.ntmps9
  by_cases h1 : 300 < n1
  · have k1 : (300 : Int) < (n1 : Int) := by omega
    go_wp2
    go_ret
    exact ⟨by simp [h1], grew_alloc _ _ _⟩
  · have k1 : ¬ (300 : Int) < (n1 : Int) := by omega
    by_cases h2 : 300 < n2
    · have k2 : (300 : Int) < (n2 : Int) := by omega
      go_wp2
      go_ret
      exact ⟨by simp, grew_alloc _ _ _⟩
    · have k2 : ¬ (300 : Int) < (n2 : Int) := by omega
      go_wp2
      go_ret
      exact ⟨by simp, grew_alloc _ _ _⟩
theorem plF_len (f : Ky → Int × Int) (m : Nat) : (plF f m).length ≤ 128 := by
  unfold plF
  refine Nat.le_trans (List.length_filterMap_le _ _) ?_
  rw [List.length_take, grid_len]; omega
theorem plA_len (f : Ky → Int × Int) : (plA f).length ≤ 128 := by rw [← pl_all]; exact plF_len f 128
theorem right_lens {b : Bk} (h : rightB b = true) : b.2.1.length ≤ 128 ∧ b.2.2.length ≤ 128 := by
  obtain ⟨h1, h2, h3⟩ := (rightB_iff b).1 h
  refine ⟨h2.2, ?_⟩
  rw [← right_self h3]; exact plA_len _
end Go.Proofs.Ytlbfljkhlkjcbaa.NumK
namespace Go.Proofs.Ytlbfljkhlkjcbaa.NumK
open Go.RowKit
set_option linter.unusedVariables false

set_option maxRecDepth 100000 in
set_option maxHeartbeats 4000000 in
theorem rof_any (b : Bk) (A1 A2 : Option Addr) (n1 n2 c1 c2 : Nat) (k1 k2 : Int) (w : World) (h : InB w b A1 A2 n1 n2 c1 c2) (hn : n2 ≤ 100000) :
    Calls Try.prog 28 #[vBk b.1 A1 A2 n1 n2 c1 c2, vKy (k1, k2)] w fun e w' => e = .returned (vPo (ofP b.2.2 (k1, k2))) ∧ Grew w w' := by
  have HI := Lib.hid h.p
  have HL := Lib.hid h.p.len
  have HF := Lib.hid (of_found b.2.2 (k1, k2))
  have HNo := Lib.hid (of_none b.2.2 (k1, k2))
  clear h
  dsimp only [vBk, vKy]
  have HX0 : Hid (OwnC (((w.alloc (.cells #[.int .i64 b.1, .slice A1 n1 c1, .slice A2 n2 c2] 30)).alloc (.cells #[.int .i64 k1, .int .i64 k2] 32)).alloc (.cells #[.int .i64 0, .int .i64 0, .int .i64 0, .int .i64 0] 34)) w.heap.size [.int .i64 b.1, .slice A1 n1 c1, .slice A2 n2 c2]) := ((OwnC.new w [.int .i64 b.1, .slice A1 n1 c1, .slice A2 n2 c2] _ _ rfl).keep (grew_alloc _ _ _)).keep (grew_alloc _ _ _)
  have HY0 : Hid (OwnC (((w.alloc (.cells #[.int .i64 b.1, .slice A1 n1 c1, .slice A2 n2 c2] 30)).alloc (.cells #[.int .i64 k1, .int .i64 k2] 32)).alloc (.cells #[.int .i64 0, .int .i64 0, .int .i64 0, .int .i64 0] 34)) (w.heap.size + 1) [.int .i64 k1, .int .i64 k2]) := (OwnC.new _ [.int .i64 k1, .int .i64 k2] _ _ (by simp)).keep (grew_alloc _ _ _)
  have HZ0 : Hid (OwnC (((w.alloc (.cells #[.int .i64 b.1, .slice A1 n1 c1, .slice A2 n2 c2] 30)).alloc (.cells #[.int .i64 k1, .int .i64 k2] 32)).alloc (.cells #[.int .i64 0, .int .i64 0, .int .i64 0, .int .i64 0] 34)) (w.heap.size + 1 + 1) [.int .i64 0, .int .i64 0, .int .i64 0, .int .i64 0]) := OwnC.new _ [.int .i64 0, .int .i64 0, .int .i64 0, .int .i64 0] _ _ (by simp)
  have HG0 : Hid (Grew w (((w.alloc (.cells #[.int .i64 b.1, .slice A1 n1 c1, .slice A2 n2 c2] 30)).alloc (.cells #[.int .i64 k1, .int .i64 k2] 32)).alloc (.cells #[.int .i64 0, .int .i64 0, .int .i64 0, .int .i64 0] 34))) := grew_trans (grew_trans (grew_alloc _ _ _) (grew_alloc _ _ _)) (grew_alloc _ _ _)
  generalize b.1 = nx at *
  generalize b.2.2 = l at *
  generalize ofP l (k1, k2) = R at *
  go_enter Try.func28, Try.ntmps28
  go_upto_region 1 with fail
  generalize ((w.alloc (.cells #[.int .i64 nx, .slice A1 n1 c1, .slice A2 n2 c2] 30)).alloc (.cells #[.int .i64 k1, .int .i64 k2] 32)).alloc (.cells #[.int .i64 0, .int .i64 0, .int .i64 0, .int .i64 0] 34) = w0 at *
  go_wp2
  go_loopw [5] (fun v wr => ∃ j : Nat, v = .int .i64 j ∧ j ≤ n2 ∧ Hid (∀ i, i < j → isK (k1, k2) (l.getD i po0) = false) ∧ Hid (Grew w0 wr)) (fun v _ => n2 - (intOf v).toNat)
  case atStart => exact ⟨0, rfl, by omega, (by intro i hi; omega), grew_refl _⟩
  case round =>
    obtain ⟨j, rfl, hj, HK, HG⟩ := hrel
    have HGW := Lib.hid (grew_trans HG0.out HG.out)
    have HX := Lib.hid (HX0.out.keep HG.out)
    have HZ := Lib.hid (HZ0.out.keep HG.out)
    have HY := Lib.hid (HY0.out.keep HG.out)
    have x2 : wr.cell? ⟨w.heap.size, 2, none⟩ = some (.slice A2 n2 c2) := HX.out.at 2 _ rfl
    by_cases hlt : j < n2
    · have hjl : j < l.length := by rw [HL.out]; exact hlt
      obtain ⟨bb, o, rfl, hb, hc⟩ := (HI.out.keep HGW.out).po hlt
      have HC := Lib.hid (hc j hlt)
      have HBB := Lib.hid hb
      have HF1 := Lib.hid (HF.out j hjl HK.out)
      have HK1 : Hid (isK (k1, k2) (l.getD j po0) = false → ∀ i, i < j + 1 → isK (k1, k2) (l.getD i po0) = false) := fun h i hi => by
        rcases Nat.lt_or_ge i j with h1 | h1
        · exact HK.out i h1
        · obtain rfl : i = j := by omega
          exact h
      have HM := Lib.hid (isK_alt k1 k2 (l.getD j po0))
      have i0 : (0 : Int) ≤ (j : Int) := by omega
      have i1 : (j : Int) < (n2 : Int) := by omega
      clear hc hb HNo HF
      generalize isK (k1, k2) (l.getD j po0) = im at *
      generalize l.getD j po0 = x at *
      obtain ⟨q1, q2, q3, q4⟩ := x
      dsimp only at HM
      have m0 := grew_every (w := wr) (S := fun w' => w'.cell? ⟨bb, o + j * 4, none⟩ = some (.int .i64 q1)) (fun w' g => (HC.out.keep g HBB.out).1)
      have m1 := grew_every (w := wr) (S := fun w' => w'.cell? ⟨bb, o + j * 4 + 1, none⟩ = some (.int .i64 q2)) (fun w' g => (HC.out.keep g HBB.out).2.1)
      have m4 := grew_every (w := wr) (S := fun w' => w'.cell? ⟨w.heap.size, 2, none⟩ = some (.slice (some ⟨bb, o, none⟩) n2 c2)) (fun w' g => (HX.out.keep g).at 2 _ rfl)
      have m5 := grew_every (w := wr) (S := fun w' => w'.cell? ⟨w.heap.size + 1, 0, none⟩ = some (.int .i64 k1)) (fun w' g => (HY.out.keep g).at 0 _ rfl)
      have m6 := grew_every (w := wr) (S := fun w' => w'.cell? ⟨w.heap.size + 1, 1, none⟩ = some (.int .i64 k2)) (fun w' g => (HY.out.keep g).at 1 _ rfl)
      have H : (im = false ∧ (q1 == k1) = false) ∨ (im = false ∧ q1 = k1 ∧ (q2 == k2) = false) ∨ (im = true ∧ q1 = k1 ∧ q2 = k2) := by
        rw [HM.out]
        by_cases h1 : q1 = k1 <;> by_cases h2 : q2 = k2 <;> simp [h1, h2]
      rcases H with ⟨rfl, d1⟩ | ⟨rfl, rfl, d2⟩ | ⟨rfl, rfl, rfl⟩
      · have HK2 := Lib.hid (HK1.out rfl)
        clear HF1 HK1 HM
        go_upto_region 4 with fail
        refine wp_region_grew (by kernel_rfl) (by kernel_rfl) ?_
        repeat (go_big_quiet_step (fail))
        refine wpQuiet_nil ?_
        intro w5 hw'
        have HG5 := Lib.hid (grew_of hw')
        clear hw' m0 m1 m4 m5 m6
        go_wp2
        go_roundw
        case rel => exact ⟨j + 1, by go_num, by omega, HK2.out, grew_trans HG.out HG5.out⟩
        case measure => simp only [intOf]; omega
      · have HK2 := Lib.hid (HK1.out rfl)
        clear HF1 HK1 HM
        go_upto_region 4 with fail
        refine wp_region_grew (by kernel_rfl) (by kernel_rfl) ?_
        repeat (go_big_quiet_step (fail))
        refine wpQuiet_nil ?_
        intro w5 hw'
        have HG5 := Lib.hid (grew_of hw')
        clear hw' m0 m1 m4 m5 m6
        go_wp2
        go_roundw
        case rel => exact ⟨j + 1, by go_num, by omega, HK2.out, grew_trans HG.out HG5.out⟩
        case measure => simp only [intOf]; omega
      · have HR := Lib.hid (HF1.out rfl)
        clear HF1 HK1 HM HK
        go_upto_region 4 with fail
        refine wp_region_grew (by kernel_rfl) (by kernel_rfl) ?_
        repeat (go_big_quiet_step (fail))
        refine wpQuiet_nil ?_
        intro w8 hw'
        have HG5 := Lib.hid (grew_of hw')
        clear hw' m0 m1 m4 m5 m6
        have HZN := Lib.hid (HZ.out.keep HG5.out)
        obtain ⟨p0, p1, p2, p3⟩ := HC.out.keep HG5.out HBB.out
        dsimp only at p0 p1 p2 p3
        have u2 : w8.cell? ⟨w.heap.size, 2, none⟩ = some (.slice (some ⟨bb, o, none⟩) n2 c2) := (HX.out.keep HG5.out).at 2 _ rfl
        have z0 : w8.cell? ⟨w.heap.size + 1 + 1, 0, none⟩ = some (.int .i64 0) := HZN.out.at 0 _ rfl
        have z1 : w8.cell? ⟨w.heap.size + 1 + 1, 1, none⟩ = some (.int .i64 0) := HZN.out.at 1 _ rfl
        have z2 : w8.cell? ⟨w.heap.size + 1 + 1, 2, none⟩ = some (.int .i64 0) := HZN.out.at 2 _ rfl
        have z3 : w8.cell? ⟨w.heap.size + 1 + 1, 3, none⟩ = some (.int .i64 0) := HZN.out.at 3 _ rfl
        have f0 : w8.frozen? ⟨w.heap.size + 1 + 1, 0, none⟩ = false := HZN.out.fr 0 (by decide)
        have f1 : w8.frozen? ⟨w.heap.size + 1 + 1, 1, none⟩ = false := HZN.out.fr 1 (by decide)
        have f2 : w8.frozen? ⟨w.heap.size + 1 + 1, 2, none⟩ = false := HZN.out.fr 2 (by decide)
        have f3 : w8.frozen? ⟨w.heap.size + 1 + 1, 3, none⟩ = false := HZN.out.fr 3 (by decide)
        go_wp2
        have HP := HZN.out.all [.int .i64 q1, .int .i64 q2, .int .i64 q3, .int .i64 q4] rfl
        have HGP := grew_put (w := w) (w.heap.size + 1 + 1) (by omega) [.int .i64 q1, .int .i64 q2, .int .i64 q3, .int .i64 q4] 0 _ (grew_trans HGW.out HG5.out)
        change bodyPost _ _ _ _ _ (putC w8 (w.heap.size + 1 + 1) 0 [.int .i64 q1, .int .i64 q2, .int .i64 q3, .int .i64 q4])
        clear z0 z1 z2 z3
        generalize putC w8 (w.heap.size + 1 + 1) 0 [.int .i64 q1, .int .i64 q2, .int .i64 q3, .int .i64 q4] = w9 at *
        have z0 : w9.cell? ⟨w.heap.size + 1 + 1, 0, none⟩ = _ := HP.at 0 _ rfl
        have z1 : w9.cell? ⟨w.heap.size + 1 + 1, 1, none⟩ = _ := HP.at 1 _ rfl
        have z2 : w9.cell? ⟨w.heap.size + 1 + 1, 2, none⟩ = _ := HP.at 2 _ rfl
        have z3 : w9.cell? ⟨w.heap.size + 1 + 1, 3, none⟩ = _ := HP.at 3 _ rfl
        refine bodyPost_ret (v := .agg #[.int .i64 q1, .int .i64 q2, .int .i64 q3, .int .i64 q4]) (by simp [results, Try.results28, go_sem, z0, z1, z2, z3]) rfl ?_
        rw [HR.out]
        exact ⟨rfl, HGP⟩
    · obtain rfl : j = n2 := by omega
      have HR := Lib.hid (HNo.out (fun i hi => HK.out i (by rw [HL.out] at hi; exact hi)))
      have y0 : wr.cell? ⟨w.heap.size + 1, 0, none⟩ = some (.int .i64 k1) := HY.out.at 0 _ rfl
      have y1 : wr.cell? ⟨w.heap.size + 1, 1, none⟩ = some (.int .i64 k2) := HY.out.at 1 _ rfl
      have z0 : wr.cell? ⟨w.heap.size + 1 + 1, 0, none⟩ = some (.int .i64 0) := HZ.out.at 0 _ rfl
      have z1 : wr.cell? ⟨w.heap.size + 1 + 1, 1, none⟩ = some (.int .i64 0) := HZ.out.at 1 _ rfl
      have z2 : wr.cell? ⟨w.heap.size + 1 + 1, 2, none⟩ = some (.int .i64 0) := HZ.out.at 2 _ rfl
      have z3 : wr.cell? ⟨w.heap.size + 1 + 1, 3, none⟩ = some (.int .i64 0) := HZ.out.at 3 _ rfl
      have f0 : wr.frozen? ⟨w.heap.size + 1 + 1, 0, none⟩ = false := HZ.out.fr 0 (by decide)
      have f1 : wr.frozen? ⟨w.heap.size + 1 + 1, 1, none⟩ = false := HZ.out.fr 1 (by decide)
      have f2 : wr.frozen? ⟨w.heap.size + 1 + 1, 2, none⟩ = false := HZ.out.fr 2 (by decide)
      have f3 : wr.frozen? ⟨w.heap.size + 1 + 1, 3, none⟩ = false := HZ.out.fr 3 (by decide)
      clear HF HNo HK
      go_wp2
      have HP := HZ.out.all [.int .i64 k1, .int .i64 k2, .int .i64 0, .int .i64 0] rfl
      have HGP := grew_put (w := w) (w.heap.size + 1 + 1) (by omega) [.int .i64 k1, .int .i64 k2, .int .i64 0, .int .i64 0] 0 _ HGW.out
      change bodyPost _ _ _ _ _ (putC wr (w.heap.size + 1 + 1) 0 [.int .i64 k1, .int .i64 k2, .int .i64 0, .int .i64 0])
      clear z0 z1 z2 z3
      generalize putC wr (w.heap.size + 1 + 1) 0 [.int .i64 k1, .int .i64 k2, .int .i64 0, .int .i64 0] = w9 at *
      have z0 : w9.cell? ⟨w.heap.size + 1 + 1, 0, none⟩ = _ := HP.at 0 _ rfl
      have z1 : w9.cell? ⟨w.heap.size + 1 + 1, 1, none⟩ = _ := HP.at 1 _ rfl
      have z2 : w9.cell? ⟨w.heap.size + 1 + 1, 2, none⟩ = _ := HP.at 2 _ rfl
      have z3 : w9.cell? ⟨w.heap.size + 1 + 1, 3, none⟩ = _ := HP.at 3 _ rfl
      refine bodyPost_ret (v := .agg #[.int .i64 k1, .int .i64 k2, .int .i64 0, .int .i64 0]) (by simp [results, Try.results28, go_sem, z0, z1, z2, z3]) rfl ?_
      rw [HR.out]
      exact ⟨rfl, HGP⟩
end Go.Proofs.Ytlbfljkhlkjcbaa.NumK
namespace Go.Proofs.Ytlbfljkhlkjcbaa.NumK
open Go.RowKit
set_option linter.unusedVariables false

theorem run_ok {r : Rl} {b : Bk} (h : runE r b = 0) : rightR r = true ∧ rightB b = true ∧ (∀ p ∈ b.2.2, stepM r p = 0) ∧ runB r b = (b.1, b.2.1, markL r b.2.2) ∧ runD r b = duesM r b.2.2 := by
  have e1 : runB r b = (b.1, b.2.1, markL r b.2.2) := by unfold runB; rw [if_pos h]
  have e2 : runD r b = duesM r b.2.2 := by unfold runD; rw [if_pos h]
  unfold runE at h
  split at h
  · next h1 =>
    split at h
    · next h2 => exact ⟨h1, h2, firstM_ok.1 h, e1, e2⟩
    · exact absurd h (by decide)
  · exact absurd h (by decide)
theorem run_no {r : Rl} {b : Bk} (h : runE r b ≠ 0) : runB r b = bk0 ∧ runD r b = [] := by unfold runB runD; rw [if_neg h, if_neg h]; exact ⟨rfl, rfl⟩
/-- What a run leaves is right, and a second run leaves it. -/
theorem run_again {r : Rl} {b : Bk} (h : runE r b = 0) : rightB (b.1, b.2.1, markL r b.2.2) = true ∧ runE r (b.1, b.2.1, markL r b.2.2) = 0 ∧ runB r (b.1, b.2.1, markL r b.2.2) = (b.1, b.2.1, markL r b.2.2) ∧ runD r (b.1, b.2.1, markL r b.2.2) = duesM r (markL r b.2.2) ∧ ∀ d ∈ duesM r (markL r b.2.2), d.2.2 = 0 := by
  obtain ⟨h1, h2, h3, _, _⟩ := run_ok h
  have hb := (rightB_iff b).1 h2
  have hr : rightB (b.1, b.2.1, markL r b.2.2) = true := (rightB_iff _).2 ⟨hb.1, hb.2.1, right_mark hb.2.2 h3⟩
  have he : runE r (b.1, b.2.1, markL r b.2.2) = 0 := by
    rw [runE_at h1 hr]
    exact firstM_ok.2 fun y hy => (mark_again h3 hy).1
  obtain ⟨_, _, _, e1, e2⟩ := run_ok he
  refine ⟨hr, he, ?_, e2, fun d hd => ?_⟩
  · rw [e1]
    show (b.1, b.2.1, markL r (markL r b.2.2)) = _
    rw [mark_twice h3]
  · unfold duesM at hd
    obtain ⟨y, hy, rfl⟩ := List.mem_map.1 hd
    exact (mark_again h3 hy).2.2
theorem getD_in {α : Type} (l : List α) (d : α) {j : Nat} (h : j < l.length) : l.getD j d ∈ l := by
  rw [List.getD_eq_getElem?_getD, List.getElem?_eq_getElem h]; exact List.getElem_mem h

set_option maxRecDepth 100000 in
set_option maxHeartbeats 4000000 in
theorem markAgain_walk (r : Rl) (b : Bk) (A1 A2 A3 B1 B2 : Option Addr) (n1 n2 n3 c1 c2 c3 m1 m2 d1 d2 : Nat) (w : World) (h3 : Rows3 w r A1 A2 A3 n1 n2 n3) (h : InB w b B1 B2 m1 m2 d1 d2) :
    Calls Try.prog 6 #[rlV A1 A2 A3 n1 n2 n3 c1 c2 c3, vBk b.1 B1 B2 m1 m2 d1 d2] w fun e w' => e = .returned (.bool true) ∧ Grew w w' := by
  have CH := fun w' => heavy11_any A1 A2 A3 n1 n2 n3 c1 c2 c3 w'
  have CK := fun w' => heavy_any b.1 B1 B2 m1 m2 d1 d2 w'
  have CV := fun w' => wakes14_any w'
  have hH : heavyR n1 n2 n3 = false → n1 ≤ 100 ∧ n2 ≤ 100 ∧ n3 ≤ 100 := by unfold heavyR; simp
  have hK : (decide (300 < m1) || decide (300 < m2)) = false → m1 ≤ 300 ∧ m2 ≤ 300 := by simp
  have CR := fun (hn : n1 ≤ 1000000 ∧ n2 ≤ 1000000 ∧ n3 ≤ 1000000) (hm : m1 ≤ 10000 ∧ m2 ≤ 10000) w' (g : Grew w w') => run_any r b A1 A2 A3 B1 B2 n1 n2 n3 c1 c2 c3 m1 m2 d1 d2 w' (h3.keep g) hn (h.keep g) hm
  have HL1 := Lib.hid h.t.len
  have HL2 := Lib.hid h.p.len
  have HI := Lib.hid h.p
  have H3 := Lib.hid h3
  clear h h3
  generalize heavyR n1 n2 n3 = HH at *
  generalize (decide (300 < m1) || decide (300 < m2)) = HHb at *
  have HHH := Lib.hid hH
  have HHK := Lib.hid hK
  clear hH hK
  dsimp only [rlV, vBk] at CH CK CR ⊢
  cases HH
  · cases HHb
    · have hn := HHH.out rfl
      have hm := HHK.out rfl
      have CR := CR ⟨by omega, by omega, by omega⟩ ⟨by omega, by omega⟩
      have hm1 := hm.1
      have hm2 := hm.2
      clear hm HHH HHK
      unfold RunP at CR
      by_cases he : runE r b = 0
      · obtain ⟨g1, g2, g3, g4, g5⟩ := run_ok he
        obtain ⟨k1, k2, k3, k4, k5⟩ := run_again he
        have hml : (markL r b.2.2).length ≤ 300 := by
          have := mark_len r b.2.2 b.2.2.length
          rw [(mark_all r b.2.2 rfl).1] at this
          have := HL2.out; omega
        have CO := fun A A' c c' k1 k2 w' (h : InB w' (b.1, b.2.1, markL r b.2.2) A A' b.2.1.length (markL r b.2.2).length c c') => rof_any (b.1, b.2.1, markL r b.2.2) A A' b.2.1.length (markL r b.2.2).length c c' k1 k2 w' h (by omega)
        have CS := fun A A' c c' w' (g : Grew w w') (h : InB w' (b.1, b.2.1, markL r b.2.2) A A' b.2.1.length (markL r b.2.2).length c c') => run_any r (b.1, b.2.1, markL r b.2.2) A1 A2 A3 A A' n1 n2 n3 c1 c2 c3 b.2.1.length (markL r b.2.2).length c c' w' (H3.out.keep g) ⟨by omega, by omega, by omega⟩ h (by have := HL1.out; omega)
        have CE := fun A A' D D' c c' f f' w' (h : InB w' (b.1, b.2.1, markL r b.2.2) A A' b.2.1.length (markL r b.2.2).length c c') (h2 : InB w' (b.1, b.2.1, markL r b.2.2) D D' b.2.1.length (markL r b.2.2).length f f') => keepBook_yes b.1 A A' D D' b.2.1.length (markL r b.2.2).length c c' f f' b.2.1 (markL r b.2.2) w' h.t h.p h2.t h2.p (by have := HL1.out; omega)
        have HQ : Hid (∀ j, j < m2 → (ofP (markL r b.2.2) ((b.2.2.getD j po0).1, (b.2.2.getD j po0).2.1)).2.2.1 = (b.2.2.getD j po0).2.2.1) := fun j hj => mark_qty ((rightB_iff b).1 g2).2.2 g3 (getD_in _ _ (by rw [HL2.out]; exact hj))
        have HZ : Hid (∀ j, j < (duesM r (markL r b.2.2)).length → ((duesM r (markL r b.2.2)).getD j du0).2.2 = 0) := fun j hj => k5 _ (getD_in _ _ hj)
        unfold RunP at CS
        rw [k3, k4, k2] at CS
        rw [g4, g5, he] at CR
        have HDD : Hid ((duesM r (markL r b.2.2)).length ≤ 300) := by show _ ≤ _; unfold duesM; rw [List.length_map]; exact hml
        clear g1 g2 g3 g4 g5 k1 k2 k3 k4 k5 he
        dsimp only [vBk, rlV, vPo, vKy] at CR CO CS CE HQ
        generalize duesM r (markL r b.2.2) = dl at *
        generalize duesM r b.2.2 = dl0 at *
        generalize markL r b.2.2 = ml at *
        have hl1 := HL1.out
        have hl2 := HL2.out
        generalize hlt : b.2.1 = lt at *
        generalize hpl : b.2.2 = pl at *
        generalize hnx : b.1 = nx at *
        rw [hl1] at CR CO CS CE
        clear hlt hpl hnx hl1 hl2
        have HR0 : Hid (OwnC ((w.alloc (.cells #[.slice A1 n1 c1, .slice A2 n2 c2, .slice A3 n3 c3] 26)).alloc (.cells #[.int .i64 nx, .slice B1 m1 d1, .slice B2 m2 d2] 30)) w.heap.size [.slice A1 n1 c1, .slice A2 n2 c2, .slice A3 n3 c3]) := (OwnC.new w [.slice A1 n1 c1, .slice A2 n2 c2, .slice A3 n3 c3] _ _ rfl).keep (grew_alloc _ _ _)
        have HB0 : Hid (OwnC ((w.alloc (.cells #[.slice A1 n1 c1, .slice A2 n2 c2, .slice A3 n3 c3] 26)).alloc (.cells #[.int .i64 nx, .slice B1 m1 d1, .slice B2 m2 d2] 30)) (w.heap.size + 1) [.int .i64 nx, .slice B1 m1 d1, .slice B2 m2 d2]) := OwnC.new (w.alloc (.cells #[.slice A1 n1 c1, .slice A2 n2 c2, .slice A3 n3 c3] 26)) [.int .i64 nx, .slice B1 m1 d1, .slice B2 m2 d2] _ _ (by simp)
        have HG0 : Hid (Grew w ((w.alloc (.cells #[.slice A1 n1 c1, .slice A2 n2 c2, .slice A3 n3 c3] 26)).alloc (.cells #[.int .i64 nx, .slice B1 m1 d1, .slice B2 m2 d2] 30))) := grew_trans (grew_alloc _ _ _) (grew_alloc _ _ _)
        go_enter Try.func6, Try.ntmps6
        go_upto_region 1 with (fail)
        generalize ((w.alloc (.cells #[.slice A1 n1 c1, .slice A2 n2 c2, .slice A3 n3 c3] 26)).alloc (.cells #[.int .i64 nx, .slice B1 m1 d1, .slice B2 m2 d2] 30)) = w0 at *
        have hbb : w.heap.size + 1 < w0.heap.size := HB0.out.lt
        generalize w.heap.size + 1 = bb at *
        have r0 := HR0.out.at 0 (.slice A1 n1 c1) rfl; have r1 := HR0.out.at 1 (.slice A2 n2 c2) rfl; have r2 := HR0.out.at 2 (.slice A3 n3 c3) rfl
        go_upto_region 6 with (first
          | (go_at_call 8; (with_reducible refine (CH _).mono ?_); rintro e w1 ⟨rfl, hg⟩; have HG1 := Lib.hid (grew_trans HG0.out hg); have HR1 := Lib.hid (HR0.out.keep hg); have HB1 := Lib.hid (HB0.out.keep hg); clear hg r0 r1 r2 HG0 HR0 HB0; have b0 := HB1.out.at 0 (.int .i64 nx) rfl; have b1 := HB1.out.at 1 (.slice B1 m1 d1) rfl; have b2 := HB1.out.at 2 (.slice B2 m2 d2) rfl)
          | (go_at_call 9; (with_reducible refine (CK _).mono ?_); rintro e w2 ⟨rfl, hg⟩; have HG2 := Lib.hid (grew_trans HG1.out hg); have HR2 := Lib.hid (HR1.out.keep hg); have HB2 := Lib.hid (HB1.out.keep hg); clear hg b0 b1 b2 HG1 HR1 HB1; have r0 := HR2.out.at 0 (.slice A1 n1 c1) rfl; have r1 := HR2.out.at 1 (.slice A2 n2 c2) rfl; have r2 := HR2.out.at 2 (.slice A3 n3 c3) rfl; have b0 := HB2.out.at 0 (.int .i64 nx) rfl; have b1 := HB2.out.at 1 (.slice B1 m1 d1) rfl; have b2 := HB2.out.at 2 (.slice B2 m2 d2) rfl)
          | (go_at_call 17; (with_reducible refine (CR _ HG2.out).mono ?_); rintro e w3 ⟨C1, C2, C9, e1, e2, e9, rfl, hob, hod, ha1, ha2, hg⟩; have HG3 := Lib.hid (grew_trans HG2.out hg); have HR3 := Lib.hid (HR2.out.keep hg); have HB3 := Lib.hid (HB2.out.keep hg); clear hg r0 r1 r2 b0 b1 b2 HG2 HR2 HB2; have HOB := Lib.hid hob; clear hob hod ha1 ha2))
        have HC4 : Hid (OwnC (w3.alloc (.cells #[.int .i64 nx, .slice C1 m1 e1, .slice C2 ml.length e2] 30)) w3.heap.size [.int .i64 nx, .slice C1 m1 e1, .slice C2 ml.length e2]) := OwnC.new w3 [.int .i64 nx, .slice C1 m1 e1, .slice C2 ml.length e2] _ _ rfl
        have HR4 : Hid (OwnC (w3.alloc (.cells #[.int .i64 nx, .slice C1 m1 e1, .slice C2 ml.length e2] 30)) w.heap.size [.slice A1 n1 c1, .slice A2 n2 c2, .slice A3 n3 c3]) := HR3.out.keep (grew_alloc _ _ _)
        have HB4 : Hid (OwnC (w3.alloc (.cells #[.int .i64 nx, .slice C1 m1 e1, .slice C2 ml.length e2] 30)) bb [.int .i64 nx, .slice B1 m1 d1, .slice B2 m2 d2]) := HB3.out.keep (grew_alloc _ _ _)
        have HG4 : Hid (Grew w (w3.alloc (.cells #[.int .i64 nx, .slice C1 m1 e1, .slice C2 ml.length e2] 30))) := grew_trans HG3.out (grew_alloc _ _ _)
        have hin := HOB.out.in
        dsimp only at hin
        rw [HL1.out] at hin
        have HI4 : Hid (InB (w3.alloc (.cells #[.int .i64 nx, .slice C1 m1 e1, .slice C2 ml.length e2] 30)) (nx, lt, ml) C1 C2 m1 ml.length e1 e2) := hin.keep (grew_alloc _ _ _)
        clear HR3 HB3 HG3 hin HOB
        generalize (w3.alloc (.cells #[.int .i64 nx, .slice C1 m1 e1, .slice C2 ml.length e2] 30)) = w4 at *
        generalize w3.heap.size = cb at *
        go_wp2
        go_loopw [8] (fun v wr => ∃ j : Nat, v = .int .i64 j ∧ j ≤ m2 ∧ Hid (Grew w4 wr)) (fun v _ => m2 - (intOf v).toNat)
        case atStart => exact ⟨0, rfl, Nat.zero_le _, grew_refl _⟩
        case round =>
          obtain ⟨j, rfl, hj, HG⟩ := hrel
          have HW := Lib.hid (grew_trans HG4.out HG.out)
          by_cases hlt : j < m2
          · obtain ⟨bo, o, rfl, hb, hc⟩ := (HI.out.keep HW.out).po hlt
            have HK : Hid (∀ w', Grew wr w' → CPo w' bo (o + j * 4) (pl.getD j po0)) := fun w' g => (hc j hlt).keep g hb
            have hq := HQ.out j hlt
            have COj := fun w' (g : Grew wr w') => CO C1 C2 e1 e2 (pl.getD j po0).1 (pl.getD j po0).2.1 w' (HI4.out.keep (grew_trans HG.out g))
            clear hc hb
            generalize ofP ml ((pl.getD j po0).1, (pl.getD j po0).2.1) = R at *
            generalize pl.getD j po0 = x at *
            obtain ⟨q1, q2, q3, q4⟩ := x
            obtain ⟨r1, r2, r3, r4⟩ := R
            dsimp only at COj hq
            subst hq
            have i0 : (0 : Int) ≤ (j : Int) := by omega
            have i1 : (j : Int) < (m2 : Int) := by omega
            have hf1 : ∀ w : World, (Instr.field 34 (.agg #[.int .i64 r1, .int .i64 r2, .int .i64 r3, .int .i64 r4]) 1).run Try.prog w = .ok (.int .i64 r3) w := fun _ => by kernel_rfl
            have x2 : ∀ p : GrewTo wr, p.to.cell? ⟨bb, 2, none⟩ = some (.slice (some ⟨bo, o, none⟩) m2 d2) := grew_every (fun w' g => (HB4.out.keep (grew_trans HG.out g)).at 2 _ rfl)
            have v0 : ∀ p : GrewTo wr, p.to.cell? ⟨cb, 0, none⟩ = some (.int .i64 nx) := grew_every (fun w' g => (HC4.out.keep (grew_trans HG.out g)).at 0 _ rfl)
            have v1 : ∀ p : GrewTo wr, p.to.cell? ⟨cb, 1, none⟩ = some (.slice C1 m1 e1) := grew_every (fun w' g => (HC4.out.keep (grew_trans HG.out g)).at 1 _ rfl)
            have v2 : ∀ p : GrewTo wr, p.to.cell? ⟨cb, 2, none⟩ = some (.slice C2 ml.length e2) := grew_every (fun w' g => (HC4.out.keep (grew_trans HG.out g)).at 2 _ rfl)
            have z0 : ∀ p : GrewTo wr, p.to.cell? ⟨bo, o + j * 4, none⟩ = some (.int .i64 q1) := grew_every (fun w' g => (HK.out w' g).1)
            have z1 : ∀ p : GrewTo wr, p.to.cell? ⟨bo, o + j * 4 + 1, none⟩ = some (.int .i64 q2) := grew_every (fun w' g => (HK.out w' g).2.1)
            have z2 : ∀ p : GrewTo wr, p.to.cell? ⟨bo, o + j * 4 + 2, none⟩ = some (.int .i64 r3) := grew_every (fun w' g => (HK.out w' g).2.2.1)
            have xw : wr.cell? ⟨bb, 2, none⟩ = some (.slice (some ⟨bo, o, none⟩) m2 d2) := (HB4.out.keep HG.out).at 2 _ rfl
            clear HK
            go_wp2_with fail
            refine wp_region_grew (by kernel_rfl) (by kernel_rfl) ?_
            repeat (go_big_quiet_step (with_reducible exact calls_every COj))
            refine wpQuiet_nil ?_
            intro wy hw'
            have HGy := Lib.hid (grew_of hw')
            clear hw' x2 v0 v1 v2 z0 z1 z2 xw
            go_wp2
            go_roundw
            case rel => exact ⟨j + 1, by go_num, by omega, grew_trans HG.out HGy.out⟩
            case measure => simp only [intOf]; omega
          · obtain rfl : j = m2 := by omega
            have HR5 := Lib.hid (HR4.out.keep HG.out)
            have HB5 := Lib.hid (HB4.out.keep HG.out)
            have HC5 := Lib.hid (HC4.out.keep HG.out)
            have HI5 := Lib.hid (HI4.out.keep HG.out)
            have CSj := CS C1 C2 e1 e2 wr HW.out HI5.out
            have r0 := HR5.out.at 0 (.slice A1 n1 c1) rfl; have r1 := HR5.out.at 1 (.slice A2 n2 c2) rfl; have r2 := HR5.out.at 2 (.slice A3 n3 c3) rfl; have c0 := HC5.out.at 0 (.int .i64 nx) rfl; have c1 := HC5.out.at 1 (.slice C1 m1 e1) rfl; have c2 := HC5.out.at 2 (.slice C2 ml.length e2) rfl; have b2 := HB5.out.at 2 (.slice B2 j d2) rfl
            go_upto_region 12 with (go_at_call 17; (with_reducible refine CSj.mono ?_); rintro e w6 ⟨D1, D2, D9, f1, f2, f9, rfl, hob, hod, -, -, hg⟩; have HG6 := Lib.hid hg; have HOB := Lib.hid hob; have HOD := Lib.hid hod; clear hob hod hg)
            have HC7 : Hid (OwnC (w6.alloc (.cells #[.int .i64 nx, .slice D1 m1 f1, .slice D2 ml.length f2] 30)) cb [.int .i64 nx, .slice C1 m1 e1, .slice C2 ml.length e2]) := (HC5.out.keep HG6.out).keep (grew_alloc _ _ _)
            have HD7 : Hid (OwnC (w6.alloc (.cells #[.int .i64 nx, .slice D1 m1 f1, .slice D2 ml.length f2] 30)) w6.heap.size [.int .i64 nx, .slice D1 m1 f1, .slice D2 ml.length f2]) := OwnC.new w6 [.int .i64 nx, .slice D1 m1 f1, .slice D2 ml.length f2] _ _ rfl
            have HG7 : Hid (Grew w (w6.alloc (.cells #[.int .i64 nx, .slice D1 m1 f1, .slice D2 ml.length f2] 30))) := grew_trans (grew_trans HW.out HG6.out) (grew_alloc _ _ _)
            have hin := HOB.out.in
            dsimp only at hin
            rw [HL1.out] at hin
            have CE7 := CE D1 D2 C1 C2 f1 f2 e1 e2 (w6.alloc (.cells #[.int .i64 nx, .slice D1 m1 f1, .slice D2 ml.length f2] 30)) (hin.keep (grew_alloc _ _ _)) ((HI5.out.keep HG6.out).keep (grew_alloc _ _ _))
            have HL7 : Hid (RowE enDu (w6.alloc (.cells #[.int .i64 nx, .slice D1 m1 f1, .slice D2 ml.length f2] 30)) D9 dl.length dl) := (own_form HOD.out).1.keep (grew_alloc _ _ _)
            clear HOB HOD HG6 hin CSj r0 r1 r2 c0 c1 c2 b2
            generalize (w6.alloc (.cells #[.int .i64 nx, .slice D1 m1 f1, .slice D2 ml.length f2] 30)) = w7 at *
            generalize w6.heap.size = db at *
            have x0 := HD7.out.at 0 (.int .i64 nx) rfl; have x1 := HD7.out.at 1 (.slice D1 m1 f1) rfl; have x2 := HD7.out.at 2 (.slice D2 ml.length f2) rfl; have c0 := HC7.out.at 0 (.int .i64 nx) rfl; have c1 := HC7.out.at 1 (.slice C1 m1 e1) rfl; have c2 := HC7.out.at 2 (.slice C2 ml.length e2) rfl
            go_wp2_with (go_at_call 19; (with_reducible refine CE7.mono ?_); rintro e w8 ⟨rfl, hg⟩; have HG8 := Lib.hid (grew_trans HG7.out hg); have HL8 := Lib.hid (HL7.out.keep hg); clear hg)
            have hdd : dl.length ≤ 300 := HDD.out
            go_loopw [11] (fun v wq => ∃ j : Nat, v = .int .i64 j ∧ j ≤ dl.length ∧ Hid (Grew w8 wq)) (fun v _ => dl.length - (intOf v).toNat)
            case atStart => exact ⟨0, rfl, Nat.zero_le _, grew_refl _⟩
            case round =>
              obtain ⟨k, rfl, hk, HGq⟩ := hrel
              by_cases hkl : k < dl.length
              · obtain ⟨bo, o, rfl, hb, hc⟩ := (HL8.out.keep HGq.out).du hkl
                have y2 := (hc k hkl).2.2
                rw [HZ.out k hkl] at y2
                have i0 : (0 : Int) ≤ (k : Int) := by omega
                have i1 : (k : Int) < (dl.length : Int) := by omega
                clear hc hb
                go_wp2
                go_roundw
                case rel => exact ⟨k + 1, by go_num, by omega, HGq.out⟩
                case measure => simp only [intOf]; omega
              · go_wp2_with (go_at_call 24; (with_reducible refine (CV _).mono ?_); rintro e w9 ⟨rfl, hg⟩; have HG9 := Lib.hid (grew_trans (grew_trans HG8.out HGq.out) hg); clear hg)
                go_ret
                exact ⟨rfl, HG9.out⟩
      · obtain ⟨g4, g5⟩ := run_no he
        have d0 : (runE r b != 0) = true := bne_iff_ne.2 he
        clear he
        rw [g4, g5] at CR
        generalize runE r b = E at *
        dsimp only [vBk, bk0] at CR
        generalize b.1 = nx at *
        have HR0 : Hid (OwnC ((w.alloc (.cells #[.slice A1 n1 c1, .slice A2 n2 c2, .slice A3 n3 c3] 26)).alloc (.cells #[.int .i64 nx, .slice B1 m1 d1, .slice B2 m2 d2] 30)) w.heap.size [.slice A1 n1 c1, .slice A2 n2 c2, .slice A3 n3 c3]) := (OwnC.new w [.slice A1 n1 c1, .slice A2 n2 c2, .slice A3 n3 c3] _ _ rfl).keep (grew_alloc _ _ _)
        have HB0 : Hid (OwnC ((w.alloc (.cells #[.slice A1 n1 c1, .slice A2 n2 c2, .slice A3 n3 c3] 26)).alloc (.cells #[.int .i64 nx, .slice B1 m1 d1, .slice B2 m2 d2] 30)) (w.heap.size + 1) [.int .i64 nx, .slice B1 m1 d1, .slice B2 m2 d2]) := OwnC.new (w.alloc (.cells #[.slice A1 n1 c1, .slice A2 n2 c2, .slice A3 n3 c3] 26)) [.int .i64 nx, .slice B1 m1 d1, .slice B2 m2 d2] _ _ (by simp)
        have HG0 : Hid (Grew w ((w.alloc (.cells #[.slice A1 n1 c1, .slice A2 n2 c2, .slice A3 n3 c3] 26)).alloc (.cells #[.int .i64 nx, .slice B1 m1 d1, .slice B2 m2 d2] 30))) := grew_trans (grew_alloc _ _ _) (grew_alloc _ _ _)
        go_enter Try.func6, Try.ntmps6
        go_upto_region 1 with (fail)
        generalize ((w.alloc (.cells #[.slice A1 n1 c1, .slice A2 n2 c2, .slice A3 n3 c3] 26)).alloc (.cells #[.int .i64 nx, .slice B1 m1 d1, .slice B2 m2 d2] 30)) = w0 at *
        have hbb : w.heap.size + 1 < w0.heap.size := HB0.out.lt
        generalize w.heap.size + 1 = bb at *
        have r0 := HR0.out.at 0 (.slice A1 n1 c1) rfl; have r1 := HR0.out.at 1 (.slice A2 n2 c2) rfl; have r2 := HR0.out.at 2 (.slice A3 n3 c3) rfl
        go_wp2_with (first
          | (go_at_call 8; (with_reducible refine (CH _).mono ?_); rintro e w1 ⟨rfl, hg⟩; have HG1 := Lib.hid (grew_trans HG0.out hg); have HR1 := Lib.hid (HR0.out.keep hg); have HB1 := Lib.hid (HB0.out.keep hg); clear hg r0 r1 r2 HG0 HR0 HB0; have b0 := HB1.out.at 0 (.int .i64 nx) rfl; have b1 := HB1.out.at 1 (.slice B1 m1 d1) rfl; have b2 := HB1.out.at 2 (.slice B2 m2 d2) rfl)
          | (go_at_call 9; (with_reducible refine (CK _).mono ?_); rintro e w2 ⟨rfl, hg⟩; have HG2 := Lib.hid (grew_trans HG1.out hg); have HR2 := Lib.hid (HR1.out.keep hg); have HB2 := Lib.hid (HB1.out.keep hg); clear hg b0 b1 b2 HG1 HR1 HB1; have r0 := HR2.out.at 0 (.slice A1 n1 c1) rfl; have r1 := HR2.out.at 1 (.slice A2 n2 c2) rfl; have r2 := HR2.out.at 2 (.slice A3 n3 c3) rfl; have b0 := HB2.out.at 0 (.int .i64 nx) rfl; have b1 := HB2.out.at 1 (.slice B1 m1 d1) rfl; have b2 := HB2.out.at 2 (.slice B2 m2 d2) rfl)
          | (go_at_call 17; (with_reducible refine (CR _ HG2.out).mono ?_); rintro e w3 ⟨C1, C2, C9, e1, e2, e9, rfl, hob, hod, ha1, ha2, hg⟩; have HG3 := Lib.hid (grew_trans HG2.out hg); have HR3 := Lib.hid (HR2.out.keep hg); have HB3 := Lib.hid (HB2.out.keep hg); clear hg r0 r1 r2 b0 b1 b2 HG2 HR2 HB2; clear hob hod ha1 ha2)
          | (go_at_call 24; (with_reducible refine (CV _).mono ?_); rintro e w9 ⟨rfl, hg⟩; have HG9 : Hid (Grew w w9) := grew_trans (grew_trans HG3.out (grew_alloc _ _ _)) hg; clear hg))
        go_ret
        exact ⟨rfl, HG9.out⟩
    · generalize b.1 = nx at *
      have HR0 : Hid (OwnC ((w.alloc (.cells #[.slice A1 n1 c1, .slice A2 n2 c2, .slice A3 n3 c3] 26)).alloc (.cells #[.int .i64 nx, .slice B1 m1 d1, .slice B2 m2 d2] 30)) w.heap.size [.slice A1 n1 c1, .slice A2 n2 c2, .slice A3 n3 c3]) := (OwnC.new w [.slice A1 n1 c1, .slice A2 n2 c2, .slice A3 n3 c3] _ _ rfl).keep (grew_alloc _ _ _)
      have HB0 : Hid (OwnC ((w.alloc (.cells #[.slice A1 n1 c1, .slice A2 n2 c2, .slice A3 n3 c3] 26)).alloc (.cells #[.int .i64 nx, .slice B1 m1 d1, .slice B2 m2 d2] 30)) (w.heap.size + 1) [.int .i64 nx, .slice B1 m1 d1, .slice B2 m2 d2]) := OwnC.new (w.alloc (.cells #[.slice A1 n1 c1, .slice A2 n2 c2, .slice A3 n3 c3] 26)) [.int .i64 nx, .slice B1 m1 d1, .slice B2 m2 d2] _ _ (by simp)
      have HG0 : Hid (Grew w ((w.alloc (.cells #[.slice A1 n1 c1, .slice A2 n2 c2, .slice A3 n3 c3] 26)).alloc (.cells #[.int .i64 nx, .slice B1 m1 d1, .slice B2 m2 d2] 30))) := grew_trans (grew_alloc _ _ _) (grew_alloc _ _ _)
      go_enter Try.func6, Try.ntmps6
      go_upto_region 1 with (fail)
      generalize ((w.alloc (.cells #[.slice A1 n1 c1, .slice A2 n2 c2, .slice A3 n3 c3] 26)).alloc (.cells #[.int .i64 nx, .slice B1 m1 d1, .slice B2 m2 d2] 30)) = w0 at *
      have hbb : w.heap.size + 1 < w0.heap.size := HB0.out.lt
      generalize w.heap.size + 1 = bb at *
      have r0 := HR0.out.at 0 (.slice A1 n1 c1) rfl; have r1 := HR0.out.at 1 (.slice A2 n2 c2) rfl; have r2 := HR0.out.at 2 (.slice A3 n3 c3) rfl
      go_wp2_with (first
        | (go_at_call 8; (with_reducible refine (CH _).mono ?_); rintro e w1 ⟨rfl, hg⟩; have HG1 := Lib.hid (grew_trans HG0.out hg); have HR1 := Lib.hid (HR0.out.keep hg); have HB1 := Lib.hid (HB0.out.keep hg); clear hg r0 r1 r2 HG0 HR0 HB0; have b0 := HB1.out.at 0 (.int .i64 nx) rfl; have b1 := HB1.out.at 1 (.slice B1 m1 d1) rfl; have b2 := HB1.out.at 2 (.slice B2 m2 d2) rfl)
        | (go_at_call 9; (with_reducible refine (CK _).mono ?_); rintro e w2 ⟨rfl, hg⟩; have HG2 := Lib.hid (grew_trans HG1.out hg); have HR2 := Lib.hid (HR1.out.keep hg); have HB2 := Lib.hid (HB1.out.keep hg); clear hg b0 b1 b2 HG1 HR1 HB1; have r0 := HR2.out.at 0 (.slice A1 n1 c1) rfl; have r1 := HR2.out.at 1 (.slice A2 n2 c2) rfl; have r2 := HR2.out.at 2 (.slice A3 n3 c3) rfl; have b0 := HB2.out.at 0 (.int .i64 nx) rfl; have b1 := HB2.out.at 1 (.slice B1 m1 d1) rfl; have b2 := HB2.out.at 2 (.slice B2 m2 d2) rfl))
      go_ret
      exact ⟨rfl, HG2.out⟩
  · generalize b.1 = nx at *
    have HR0 : Hid (OwnC ((w.alloc (.cells #[.slice A1 n1 c1, .slice A2 n2 c2, .slice A3 n3 c3] 26)).alloc (.cells #[.int .i64 nx, .slice B1 m1 d1, .slice B2 m2 d2] 30)) w.heap.size [.slice A1 n1 c1, .slice A2 n2 c2, .slice A3 n3 c3]) := (OwnC.new w [.slice A1 n1 c1, .slice A2 n2 c2, .slice A3 n3 c3] _ _ rfl).keep (grew_alloc _ _ _)
    have HB0 : Hid (OwnC ((w.alloc (.cells #[.slice A1 n1 c1, .slice A2 n2 c2, .slice A3 n3 c3] 26)).alloc (.cells #[.int .i64 nx, .slice B1 m1 d1, .slice B2 m2 d2] 30)) (w.heap.size + 1) [.int .i64 nx, .slice B1 m1 d1, .slice B2 m2 d2]) := OwnC.new (w.alloc (.cells #[.slice A1 n1 c1, .slice A2 n2 c2, .slice A3 n3 c3] 26)) [.int .i64 nx, .slice B1 m1 d1, .slice B2 m2 d2] _ _ (by simp)
    have HG0 : Hid (Grew w ((w.alloc (.cells #[.slice A1 n1 c1, .slice A2 n2 c2, .slice A3 n3 c3] 26)).alloc (.cells #[.int .i64 nx, .slice B1 m1 d1, .slice B2 m2 d2] 30))) := grew_trans (grew_alloc _ _ _) (grew_alloc _ _ _)
    go_enter Try.func6, Try.ntmps6
    go_upto_region 1 with (fail)
    generalize ((w.alloc (.cells #[.slice A1 n1 c1, .slice A2 n2 c2, .slice A3 n3 c3] 26)).alloc (.cells #[.int .i64 nx, .slice B1 m1 d1, .slice B2 m2 d2] 30)) = w0 at *
    have hbb : w.heap.size + 1 < w0.heap.size := HB0.out.lt
    generalize w.heap.size + 1 = bb at *
    have r0 := HR0.out.at 0 (.slice A1 n1 c1) rfl; have r1 := HR0.out.at 1 (.slice A2 n2 c2) rfl; have r2 := HR0.out.at 2 (.slice A3 n3 c3) rfl
    go_wp2_with (go_at_call 8; (with_reducible refine (CH _).mono ?_); rintro e w1 ⟨rfl, hg⟩; have HG1 := Lib.hid (grew_trans HG0.out hg); have HR1 := Lib.hid (HR0.out.keep hg); have HB1 := Lib.hid (HB0.out.keep hg); clear hg r0 r1 r2 HG0 HR0 HB0; have b0 := HB1.out.at 0 (.int .i64 nx) rfl; have b1 := HB1.out.at 1 (.slice B1 m1 d1) rfl; have b2 := HB1.out.at 2 (.slice B2 m2 d2) rfl)
    go_ret
    exact ⟨rfl, HG1.out⟩
end Go.Proofs.Ytlbfljkhlkjcbaa.NumK
namespace Go.Proofs.Ytlbfljkhlkjcbaa.NumK
open Go.RowKit Go.ChangeShapes Go.WideShapes
set_option linter.unusedVariables false

abbrev spTrA : Sp (Int × Int × Int × Int × Int × Int × Bool) := spPair spI (spPair spI (spPair spI (spPair spI (spPair spI (spPair spI spBool)))))
def toTr (x : Int × Int × Int × Int × Int × Int × Bool) : Tr := ((x.1, x.2.1, x.2.2.1, x.2.2.2.1, x.2.2.2.2.1, x.2.2.2.2.2.1), x.2.2.2.2.2.2)
def spTr : Sp Tr := spMap toTr spTrA
theorem opens_bool1 : Opens Try.prog 4 spBool := opens_bool Try.underlying4 (by kernel_rfl)
theorem opens_trade : Opens Try.prog 86 spTr :=
  opens_map toTr (opens_struct Try.underlying86 (by kernel_rfl) (Fs.cons _ _ 0 rfl opens_i (Fs.cons _ _ 1 rfl opens_i (Fs.cons _ _ 2 rfl opens_i (Fs.cons _ _ 3 rfl opens_i (Fs.cons _ _ 4 rfl opens_i (Fs.cons _ _ 5 rfl opens_i (Fs.last _ 6 rfl opens_bool1))))))))
theorem tr_rd {w : World} {cs : List Value} {a : Tr} (h : spTr.rd w cs a) : cs = enTr.cs a := by
  obtain ⟨x, ⟨c1, d1, rfl, ⟨rfl, _⟩, c2, d2, rfl, ⟨rfl, _⟩, c3, d3, rfl, ⟨rfl, _⟩, c4, d4, rfl, ⟨rfl, _⟩, c5, d5, rfl, ⟨rfl, _⟩, c6, d6, rfl, ⟨rfl, _⟩, hb⟩, rfl⟩ := h
  have hb : d6 = [.bool x.2.2.2.2.2.2] := hb
  subst hb
  rfl
theorem trs_of {w : World} {A : Option Addr} {n : Nat} {l : List Tr} (h : Row spTr w A n l) : RowE enTr w A n l := rowE_of rfl (fun _ _ _ => tr_rd) h

abbrev spKey : Sp (Int × Int) := spPair spI spI
abbrev spPoA : Sp ((Int × Int) × Int × Int) := spPair spKey (spPair spI spI)
def toPo (x : (Int × Int) × Int × Int) : Po := (x.1.1, x.1.2, x.2.1, x.2.2)
def spPo : Sp Po := spMap toPo spPoA
theorem opens_key : Opens Try.prog 32 spKey := opens_struct Try.underlying32 (by kernel_rfl) (Fs.cons _ _ 0 rfl opens_i (Fs.last _ 1 rfl opens_i))
theorem opens_pos : Opens Try.prog 34 spPo :=
  opens_map toPo (opens_struct Try.underlying34 (by kernel_rfl) (Fs.cons _ _ 0 rfl opens_key (Fs.cons _ _ 2 rfl opens_i (Fs.last _ 3 rfl opens_i))))
theorem po_rd {w : World} {cs : List Value} {a : Po} (h : spPo.rd w cs a) : cs = enPo.cs a := by
  obtain ⟨x, ⟨c0, d0, rfl, ⟨c1, d1, rfl, ⟨rfl, _⟩, rfl, _⟩, c3, d3, rfl, ⟨rfl, _⟩, rfl, _⟩, rfl⟩ := h
  rfl
theorem po_of {w : World} {cs : Array Value} {a : Po} (h : spPo.rd w cs.toList a) : Value.agg cs = vPo a := by
  have := po_rd h
  congr 1
  exact Array.toList_inj.1 (by rw [this]; rfl)
theorem key_of {w : World} {cs : Array Value} {a : Int × Int} (h : spKey.rd w cs.toList a) : Value.agg cs = vKy a := by
  obtain ⟨c1, d1, e, ⟨rfl, _⟩, rfl, _⟩ := h
  congr 1
  exact Array.toList_inj.1 (by rw [e]; rfl)
theorem poss_of {w : World} {A : Option Addr} {n : Nat} {l : List Po} (h : Row spPo w A n l) : RowE enPo w A n l := rowE_of rfl (fun _ _ _ => po_rd) h
theorem opens_poss : Opens Try.prog 28 (spSlice spPo) := opens_slice Try.underlying28 (by kernel_rfl) opens_pos (by decide)
theorem opens_trades : Opens Try.prog 27 (spSlice spTr) := opens_slice Try.underlying27 (by kernel_rfl) opens_trade (by decide)

abbrev spBk : Sp Bk := spPair spI (spPair (spSlice spTr) (spSlice spPo))
theorem opens_book : Opens Try.prog 30 spBk :=
  opens_struct Try.underlying30 (by kernel_rfl) (Fs.cons _ _ 0 rfl opens_i (Fs.cons _ _ 1 rfl opens_trades (Fs.last _ 2 rfl opens_poss)))
theorem book_of {w : World} {cs : Array Value} {b : Bk} (h : spBk.rd w cs.toList b) : ∃ A1 A2 n1 n2 c1 c2, Value.agg cs = vBk b.1 A1 A2 n1 n2 c1 c2 ∧ InB w b A1 A2 n1 n2 c1 c2 := by
  obtain ⟨x1, y1, e, ⟨rfl, _⟩, x2, y2, rfl, ⟨A1, n1, c1, rfl, hr1, hk1, hl1, hm1⟩, A2, n2, c2, rfl, hr2, hk2, hl2, hm2⟩ := h
  unfold maxLen at hm1 hm2
  refine ⟨A1, A2, n1, n2, c1, c2, ?_, ⟨trs_of hr1, poss_of hr2, hk1, hk2, ⟨hl1, by omega⟩, ⟨hl2, by omega⟩⟩⟩
  congr 1
  exact Array.toList_inj.1 (by rw [e]; rfl)
end Go.Proofs.Ytlbfljkhlkjcbaa.NumK
namespace Go.Proofs.Ytlbfljkhlkjcbaa.NumK
open Go.RowKit
set_option linter.unusedVariables false

def wonL (r : Rl) (n : Int) (l : List Po) : List Int := (l.filter (isI n)).map (wonP r)
def costL (m n : Int) (l : List Po) : List Int := (l.filter (isI n)).map fun p => -p.2.2.2 * m
theorem wonL_succ (r : Rl) (n : Int) {l : List Po} {j : Nat} (hj : j < l.length) : wonL r n (l.take (j + 1)) = wonL r n (l.take j) ++ (if (l.getD j po0).2.1 = n then [wonP r (l.getD j po0)] else []) := by
  rw [take_getD hj]; unfold wonL
  rw [List.filter_append, List.map_append]
  congr 1
  rw [List.filter_cons, List.filter_nil]
  by_cases h : (l.getD j po0).2.1 = n
  · have h2 : isI n (l.getD j po0) = true := decide_eq_true h
    rw [if_pos h, if_pos h2]; rfl
  · have h2 : ¬ isI n (l.getD j po0) = true := fun hh => h (of_decide_eq_true hh)
    rw [if_neg h, if_neg h2]; rfl
theorem costL_succ (m n : Int) {l : List Po} {j : Nat} (hj : j < l.length) : costL m n (l.take (j + 1)) = costL m n (l.take j) ++ (if (l.getD j po0).2.1 = n then [-(l.getD j po0).2.2.2 * m] else []) := by
  rw [take_getD hj]; unfold costL
  rw [List.filter_append, List.map_append]
  congr 1
  rw [List.filter_cons, List.filter_nil]
  by_cases h : (l.getD j po0).2.1 = n
  · have h2 : isI n (l.getD j po0) = true := decide_eq_true h
    rw [if_pos h, if_pos h2]; rfl
  · have h2 : ¬ isI n (l.getD j po0) = true := fun hh => h (of_decide_eq_true hh)
    rw [if_neg h, if_neg h2]; rfl
theorem lists_len (r : Rl) (m n : Int) (l : List Po) (j : Nat) : (wonL r n (l.take j)).length ≤ j ∧ (costL m n (l.take j)).length ≤ j := by
  unfold wonL costL
  rw [List.length_map, List.length_map]
  have h1 := List.length_filter_le (isI n) (l.take j)
  have h2 : (l.take j).length ≤ j := by rw [List.length_take]; omega
  omega
theorem sum_abs (l : List Int) (B : Nat) (h : ∀ x ∈ l, x.natAbs ≤ B) : l.sum.natAbs ≤ l.length * B := by
  induction l with
  | nil => simp
  | cons x l ih =>
    have h1 := ih fun y hy => h y (List.mem_cons_of_mem _ hy)
    have h2 := h x (List.mem_cons_self ..)
    rw [List.sum_cons, List.length_cons, Nat.add_mul, Nat.one_mul]
    have := Int.natAbs_add_le x l.sum
    omega
theorem inst_at {r : Rl} (h : rightR r = true) {k : Nat} (hk : k < r.2.1.length) {p : Po} (hp : p.2.1 = noIn (r.2.1.getD k in0)) : hasI r p = true ∧ instOf r p = r.2.1.getD k in0 := by
  unfold rightR at h
  rw [Bool.and_eq_true, Bool.and_eq_true] at h
  have hr := ((rightL_iff _ _ _ _).1 h.2.1).2
  refine find_yes noIn in0 r.2.1 p.2.1 k hk (fun i hi => ?_) hp.symm
  rw [hp]
  have hi' : i < r.2.1.length := by omega
  rw [List.getD_eq_getElem?_getD, List.getD_eq_getElem?_getD, List.getElem?_eq_getElem hi', List.getElem?_eq_getElem hk]
  have := List.pairwise_iff_getElem.1 hr i k hi' hk hi
  show noIn r.2.1[i] ≠ noIn r.2.1[k]
  omega
theorem inst_range {r : Rl} (h : rightR r = true) {k : Nat} (hk : k < r.2.1.length) : (1 ≤ noIn (r.2.1.getD k in0) ∧ noIn (r.2.1.getD k in0) ≤ 8) ∧ 1 ≤ (r.2.1.getD k in0).1.2.2.1 ∧ (r.2.1.getD k in0).1.2.2.1 ≤ 1024 := by
  unfold rightR at h
  rw [Bool.and_eq_true, Bool.and_eq_true] at h
  have hr := ((rightL_iff _ _ _ _).1 h.2.1).1 (r.2.1.getD k in0) (by rw [List.getD_eq_getElem?_getD, List.getElem?_eq_getElem hk]; exact List.getElem_mem hk)
  unfold okIn okIn6 at hr
  simp only [Bool.and_eq_true, wi, decide_eq_true_eq] at hr
  unfold noIn
  omega
/-- Of an instrument all that is won adds up to the costs, turned round and multiplied; both sums are wide numbers. -/
theorem won_cost {r : Rl} {b : Bk} (h1 : rightR r = true) (h2 : rightB b = true) (h3 : ∀ p ∈ b.2.2, stepM r p = 0) {k : Nat} (hk : k < r.2.1.length) :
    (wonL r (noIn (r.2.1.getD k in0)) b.2.2).sum = (costL (r.2.1.getD k in0).1.2.2.1 (noIn (r.2.1.getD k in0)) b.2.2).sum ∧ isWide (wonL r (noIn (r.2.1.getD k in0)) b.2.2).sum = true ∧
    (∀ x ∈ wonL r (noIn (r.2.1.getD k in0)) b.2.2, isWide x = true) ∧ ∀ x ∈ costL (r.2.1.getD k in0).1.2.2.1 (noIn (r.2.1.getD k in0)) b.2.2, isWide x = true := by
  have hp := ((rightB_iff b).1 h2).2.2
  obtain ⟨p1, _, p3⟩ := (rightPs_iff _).1 hp
  obtain ⟨⟨k1, k2⟩, k3, k4⟩ := inst_range h1 hk
  have hw : ∀ x ∈ wonL r (noIn (r.2.1.getD k in0)) b.2.2, x.natAbs ≤ 4611686018427387904 := fun x hx => by
    unfold wonL at hx
    obtain ⟨p, hp, rfl⟩ := List.mem_map.1 hx
    have := (stepM_ok.1 (h3 p (List.mem_filter.1 hp).1)).2.2.1
    rw [isMoney_iff] at this; omega
  have hc : ∀ x ∈ costL (r.2.1.getD k in0).1.2.2.1 (noIn (r.2.1.getD k in0)) b.2.2, x.natAbs ≤ 4611686018427387904 * 1024 := fun x hx => by
    unfold costL at hx
    obtain ⟨p, hp, rfl⟩ := List.mem_map.1 hx
    have := ((okPo_iff p).1 (p1 p (List.mem_filter.1 hp).1)).2.2.1
    rw [isMoney_iff] at this
    exact mul_abs (by omega) (by omega)
  refine ⟨won_zero r (r.2.1.getD k in0) _ b.2.2 (fun p _ hpn => (inst_at h1 hk hpn).2) (p3 _ k1 k2), ?_, fun x hx => isWide_abs (by have := hw x hx; omega), fun x hx => isWide_abs (by have := hc x hx; omega)⟩
  have hl : (wonL r (noIn (r.2.1.getD k in0)) b.2.2).length ≤ 128 := by
    have := (lists_len r 0 (noIn (r.2.1.getD k in0)) b.2.2 b.2.2.length).1
    rw [List.take_length] at this
    have h128 := (right_lens h2).2
    omega
  have hs := sum_abs _ _ hw
  refine isWide_abs (Nat.le_trans hs ?_)
  refine Nat.le_trans (Nat.mul_le_mul_right _ hl) (by decide)

/-! ### rows of wide numbers -/
def enWd : En Int := ⟨2, fun x => [.int .i64 (hi64 x), .int .u64 (lo64 x)], fun _ => rfl, fun a v hv => by
  simp at hv; rcases hv with rfl | rfl <;> rfl, by decide⟩
theorem wides_of_E {w : World} {A : Option Addr} {n : Nat} {l : List Int} (h : RowE enWd w A n l) : Wides w A n l := by
  refine ⟨h.len, fun hn => ?_⟩
  obtain ⟨b, o, e, hb, hc⟩ := h.at hn
  refine ⟨b, o, e, hb, fun j hj => ?_⟩
  have hj' : j < l.length := by rw [h.len]; exact hj
  rw [getD_at l 0 j hj']
  exact ⟨hc j hj' 0 (by decide), hc j hj' 1 (by decide)⟩
end Go.Proofs.Ytlbfljkhlkjcbaa.NumK
