/- Books that are the same; a twin; one written over. -/
import Derived.Test.YtkbmiajgmnfpfaaRW
import Derived.Test.YtkbmiajgmnfpfaaRO
import Derived.Deep.CutBlock
namespace Go.Proofs.Ytkbmiajgmnfpfaa.NumK
open Go.RowKit
set_option linter.unusedVariables false

set_option maxRecDepth 100000 in
theorem keepBook_yes (nx : Int) (A1 A2 B1 B2 : Option Addr) (n1 n2 c1 c2 d1 d2 : Nat) (lt : List Tr) (pl : List Po) (w : World) (h1 : RowE enTr w A1 n1 lt) (h2 : RowE enPo w A2 n2 pl) (h3 : RowE enTr w B1 n1 lt) (h4 : RowE enPo w B2 n2 pl) (hn : n1 ≤ 1000000 ∧ n2 ≤ 1000000) :
    Calls Try.prog 20 #[vBk nx A1 A2 n1 n2 c1 c2, vBk nx B1 B2 n1 n2 d1 d2] w fun e w' => e = .returned (.bool true) ∧ Grew w w' := by
  have CT := fun w' (g : Grew w w') => keepTrades_yes A1 B1 n1 c1 d1 lt w' (h1.keep g) (h3.keep g) hn.1
  have CP := fun w' (g : Grew w w') => keepPoss_yes A2 B2 n2 c2 d2 pl w' (h2.keep g) (h4.keep g) hn.2
  have HG0 : Hid (Grew w ((w.alloc (.cells #[.int .i64 nx, .slice A1 n1 c1, .slice A2 n2 c2] 25)).alloc (.cells #[.int .i64 nx, .slice B1 n1 d1, .slice B2 n2 d2] 25))) := grew_trans (grew_alloc _ _ _) (grew_alloc _ _ _)
  have HX0 : Hid (OwnC ((w.alloc (.cells #[.int .i64 nx, .slice A1 n1 c1, .slice A2 n2 c2] 25)).alloc (.cells #[.int .i64 nx, .slice B1 n1 d1, .slice B2 n2 d2] 25)) w.heap.size [.int .i64 nx, .slice A1 n1 c1, .slice A2 n2 c2]) := (OwnC.new w [.int .i64 nx, .slice A1 n1 c1, .slice A2 n2 c2] _ _ rfl).keep (grew_alloc _ _ _)
  have HY0 : Hid (OwnC ((w.alloc (.cells #[.int .i64 nx, .slice A1 n1 c1, .slice A2 n2 c2] 25)).alloc (.cells #[.int .i64 nx, .slice B1 n1 d1, .slice B2 n2 d2] 25)) (w.heap.size + 1) [.int .i64 nx, .slice B1 n1 d1, .slice B2 n2 d2]) := OwnC.new _ [.int .i64 nx, .slice B1 n1 d1, .slice B2 n2 d2] _ _ (by simp)
  clear h1 h2 h3 h4
  dsimp only [vBk]
  go_enter Try.func20, Try.ntmps20
  go_wp2_with (first
    | (go_at_call 46; ((with_reducible refine (CT _ HG0.out).mono ?_); rintro e w1 ⟨rfl, hg⟩; have HG1 := Lib.hid (grew_trans HG0.out hg); have HX1 := Lib.hid (HX0.out.keep hg); have HY1 := Lib.hid (HY0.out.keep hg); have x2 : w1.cell? ⟨w.heap.size, 2, none⟩ = some (.slice A2 n2 c2) := HX1.out.at 2 _ rfl; have y2 : w1.cell? ⟨w.heap.size + 1, 2, none⟩ = some (.slice B2 n2 d2) := HY1.out.at 2 _ rfl; clear hg CT))
    | (go_at_call 27; ((with_reducible refine (CP _ HG1.out).mono ?_); rintro e w2 ⟨rfl, hg⟩; have HG2 := Lib.hid (grew_trans HG1.out hg); clear hg CP)))
  go_ret
  exact ⟨rfl, HG2.out⟩

set_option maxRecDepth 100000 in
set_option maxHeartbeats 4000000 in
theorem twinBook_any (b : Bk) (A1 A2 : Option Addr) (n1 n2 c1 c2 : Nat) (w : World) (h : InB w b A1 A2 n1 n2 c1 c2) (hn : n1 ≤ 1000000 ∧ n2 ≤ 1000000) :
    Calls Try.prog 10 #[vBk b.1 A1 A2 n1 n2 c1 c2] w (BookP b w) := by
  have HI := Lib.hid h
  have HL1 := Lib.hid h.t.len
  have HL2 := Lib.hid h.p.len
  clear h
  obtain ⟨nx, lt, pl⟩ := b
  dsimp only [vBk] at *
  go_enter Try.func10, Try.ntmps10
  go_upto_region 2 with fail
  have HG0 : Hid (Grew w (((w.alloc (.cells #[.int .i64 nx, .slice A1 n1 c1, .slice A2 n2 c2] 25)).alloc (.cells #[.int .i64 0, .slice none 0 0, .slice none 0 0] 25)).alloc (.cells #[.int .i64 nx, .slice none 0 0, .slice none 0 0] 25))) := grew_trans (grew_trans (grew_alloc _ _ _) (grew_alloc _ _ _)) (grew_alloc _ _ _)
  have HX0 : Hid (OwnC (((w.alloc (.cells #[.int .i64 nx, .slice A1 n1 c1, .slice A2 n2 c2] 25)).alloc (.cells #[.int .i64 0, .slice none 0 0, .slice none 0 0] 25)).alloc (.cells #[.int .i64 nx, .slice none 0 0, .slice none 0 0] 25)) w.heap.size [.int .i64 nx, .slice A1 n1 c1, .slice A2 n2 c2]) := ((OwnC.new w [.int .i64 nx, .slice A1 n1 c1, .slice A2 n2 c2] _ _ rfl).keep (grew_alloc _ _ _)).keep (grew_alloc _ _ _)
  have HR0 : Hid (OwnC (((w.alloc (.cells #[.int .i64 nx, .slice A1 n1 c1, .slice A2 n2 c2] 25)).alloc (.cells #[.int .i64 0, .slice none 0 0, .slice none 0 0] 25)).alloc (.cells #[.int .i64 nx, .slice none 0 0, .slice none 0 0] 25)) (w.heap.size + 1) [.int .i64 0, .slice none 0 0, .slice none 0 0]) := (OwnC.new _ [.int .i64 0, .slice none 0 0, .slice none 0 0] _ _ (by simp)).keep (grew_alloc _ _ _)
  have HI0 : Hid (OwnC (((w.alloc (.cells #[.int .i64 nx, .slice A1 n1 c1, .slice A2 n2 c2] 25)).alloc (.cells #[.int .i64 0, .slice none 0 0, .slice none 0 0] 25)).alloc (.cells #[.int .i64 nx, .slice none 0 0, .slice none 0 0] 25)) (w.heap.size + 1 + 1) [.int .i64 nx, .slice none 0 0, .slice none 0 0]) := OwnC.new _ [.int .i64 nx, .slice none 0 0, .slice none 0 0] _ _ (by simp)
  have HSZ : Hid (w.heap.size + 3 ≤ (((w.alloc (.cells #[.int .i64 nx, .slice A1 n1 c1, .slice A2 n2 c2] 25)).alloc (.cells #[.int .i64 0, .slice none 0 0, .slice none 0 0] 25)).alloc (.cells #[.int .i64 nx, .slice none 0 0, .slice none 0 0] 25)).heap.size) := by show _ ≤ _; simp
  generalize ((w.alloc (.cells #[.int .i64 nx, .slice A1 n1 c1, .slice A2 n2 c2] 25)).alloc (.cells #[.int .i64 0, .slice none 0 0, .slice none 0 0] 25)).alloc (.cells #[.int .i64 nx, .slice none 0 0, .slice none 0 0] 25) = w0 at *
  have x1 : w0.cell? ⟨w.heap.size, 1, none⟩ = some (.slice A1 n1 c1) := HX0.out.at 1 _ rfl
  have i1 : w0.cell? ⟨w.heap.size + 1 + 1, 1, none⟩ = some (.slice none 0 0) := HI0.out.at 1 _ rfl
  go_upto_region 3 with (at_builtin; refine (wpList_append_E rfl _ _ 22 49 (vTr tr0) 56 rfl Try.underlying22 info_tr rfl w0.heap.size _ [] rfl (OwnE.nil enTr _ _ _) A1 n1 c1 lt rfl HI.out.k1 (HI.out.t.keep HG0.out) (by simp; unfold maxLen; omega) (by simp; omega) (Nat.le_refl _) ?_); intro v' w1 ho hb; rw [List.nil_append] at ho; obtain ⟨B1, d1, rfl, -⟩ := ho.form; have HO1 := Lib.hid ho; have HB1 := Lib.hid (hb : Grew w0 w1); have HG1 := Lib.hid (grew_trans HG0.out hb); have HI1 := Lib.hid (HI0.out.keep hb); have j1 : w1.cell? ⟨w.heap.size + 1 + 1, 1, none⟩ = some (.slice none 0 0) := HI1.out.at 1 _ rfl; have k1 : w1.frozen? ⟨w.heap.size + 1 + 1, 1, none⟩ = false := HI1.out.fr 1 (by show 1 < 3; omega); clear ho hb x1 i1)
  have HX2 : Hid (OwnC (w1.setCell ⟨w.heap.size + 1 + 1, 1, none⟩ (.slice B1 lt.length d1)) w.heap.size [.int .i64 nx, .slice A1 n1 c1, .slice A2 n2 c2]) := (HX0.out.keep HB1.out).other ⟨w.heap.size + 1 + 1, 1, none⟩ _ (by show _ + 1 + 1 ≠ _; omega)
  have HR2 : Hid (OwnC (w1.setCell ⟨w.heap.size + 1 + 1, 1, none⟩ (.slice B1 lt.length d1)) (w.heap.size + 1) [.int .i64 0, .slice none 0 0, .slice none 0 0]) := (HR0.out.keep HB1.out).other ⟨w.heap.size + 1 + 1, 1, none⟩ _ (by show _ + 1 + 1 ≠ _; omega)
  have HI2 : Hid (OwnC (w1.setCell ⟨w.heap.size + 1 + 1, 1, none⟩ (.slice B1 lt.length d1)) (w.heap.size + 1 + 1) [.int .i64 nx, .slice B1 lt.length d1, .slice none 0 0]) := HI1.out.set 1 _ (by show 1 < 3; omega)
  have HO2 : Hid (OwnE enTr (w1.setCell ⟨w.heap.size + 1 + 1, 1, none⟩ (.slice B1 lt.length d1)) (w.heap.size + 3) 49 (.slice B1 lt.length d1) lt) := (HO1.out.mono HSZ.out).set _ 1 _ (by omega)
  have HG2 : Hid (Grew w (w1.setCell ⟨w.heap.size + 1 + 1, 1, none⟩ (.slice B1 lt.length d1))) := grew_set HG1.out _ (by show _ ≤ _ + 1 + 1; omega)
  have HSZ2 : Hid (w.heap.size + 3 ≤ (w1.setCell ⟨w.heap.size + 1 + 1, 1, none⟩ (.slice B1 lt.length d1)).heap.size) := le_set _ _ (Nat.le_trans HSZ.out HB1.out.size)
  clear HX0 HR0 HI0 HI1 HO1 HB1 HG1 j1 k1 HSZ
  generalize w1.setCell ⟨w.heap.size + 1 + 1, 1, none⟩ (.slice B1 lt.length d1) = w2 at *
  have x2 : w2.cell? ⟨w.heap.size, 2, none⟩ = some (.slice A2 n2 c2) := HX2.out.at 2 _ rfl
  have i2 : w2.cell? ⟨w.heap.size + 1 + 1, 2, none⟩ = some (.slice none 0 0) := HI2.out.at 2 _ rfl
  go_upto_region 4 with (at_builtin; refine (wpList_append_E rfl _ _ 23 36 (vPo po0) 32 rfl Try.underlying23 info_po rfl w2.heap.size _ [] rfl (OwnE.nil enPo _ _ _) A2 n2 c2 pl rfl HI.out.k2 (HI.out.p.keep HG2.out) (by simp; unfold maxLen; omega) (by simp; omega) (Nat.le_refl _) ?_); intro v' w3 ho hb; rw [List.nil_append] at ho; obtain ⟨B2, d2, rfl, -⟩ := ho.form; have HO3 := Lib.hid ho; have HB3 := Lib.hid (hb : Grew w2 w3); have HG3 := Lib.hid (grew_trans HG2.out hb); have HI3 := Lib.hid (HI2.out.keep hb); have j2 : w3.cell? ⟨w.heap.size + 1 + 1, 2, none⟩ = some (.slice none 0 0) := HI3.out.at 2 _ rfl; have k2 : w3.frozen? ⟨w.heap.size + 1 + 1, 2, none⟩ = false := HI3.out.fr 2 (by show 2 < 3; omega); clear ho hb x2 i2)
  have HAP : Hid (Apart B1 B2) := fun x y hx hy => by
    have h1 := (HO2.out.block x hx).2
    have h2 := (HO3.out.block y hy).1
    omega
  have HR4 : Hid (OwnC (w3.setCell ⟨w.heap.size + 1 + 1, 2, none⟩ (.slice B2 pl.length d2)) (w.heap.size + 1) [.int .i64 0, .slice none 0 0, .slice none 0 0]) := (HR2.out.keep HB3.out).other ⟨w.heap.size + 1 + 1, 2, none⟩ _ (by show _ + 1 + 1 ≠ _; omega)
  have HI4 : Hid (OwnC (w3.setCell ⟨w.heap.size + 1 + 1, 2, none⟩ (.slice B2 pl.length d2)) (w.heap.size + 1 + 1) [.int .i64 nx, .slice B1 lt.length d1, .slice B2 pl.length d2]) := HI3.out.set 2 _ (by show 2 < 3; omega)
  have HO4 : Hid (OwnE enTr (w3.setCell ⟨w.heap.size + 1 + 1, 2, none⟩ (.slice B2 pl.length d2)) (w.heap.size + 3) 49 (.slice B1 lt.length d1) lt) := (HO2.out.keep HB3.out).set _ 2 _ (by omega)
  have HP4 : Hid (OwnE enPo (w3.setCell ⟨w.heap.size + 1 + 1, 2, none⟩ (.slice B2 pl.length d2)) (w.heap.size + 3) 36 (.slice B2 pl.length d2) pl) := (HO3.out.mono HSZ2.out).set _ 2 _ (by omega)
  have HG4 : Hid (Grew w (w3.setCell ⟨w.heap.size + 1 + 1, 2, none⟩ (.slice B2 pl.length d2))) := grew_set HG3.out _ (by show _ ≤ _ + 1 + 1; omega)
  clear HX2 HR2 HI2 HI3 HO2 HO3 HB3 HG3 HG2 j2 k2 HSZ2
  generalize w3.setCell ⟨w.heap.size + 1 + 1, 2, none⟩ (.slice B2 pl.length d2) = w4 at *
  have i0 : w4.cell? ⟨w.heap.size + 1 + 1, 0, none⟩ = some (.int .i64 nx) := HI4.out.at 0 _ rfl
  have i1 : w4.cell? ⟨w.heap.size + 1 + 1, 1, none⟩ = some (.slice B1 lt.length d1) := HI4.out.at 1 _ rfl
  have i2 : w4.cell? ⟨w.heap.size + 1 + 1, 2, none⟩ = some (.slice B2 pl.length d2) := HI4.out.at 2 _ rfl
  have y0 : w4.cell? ⟨w.heap.size + 1, 0, none⟩ = some (.int .i64 0) := HR4.out.at 0 _ rfl
  have y1 : w4.cell? ⟨w.heap.size + 1, 1, none⟩ = some (.slice none 0 0) := HR4.out.at 1 _ rfl
  have y2 : w4.cell? ⟨w.heap.size + 1, 2, none⟩ = some (.slice none 0 0) := HR4.out.at 2 _ rfl
  have f0 : w4.frozen? ⟨w.heap.size + 1, 0, none⟩ = false := HR4.out.fr 0 (by decide)
  have f1 : w4.frozen? ⟨w.heap.size + 1, 1, none⟩ = false := HR4.out.fr 1 (by decide)
  have f2 : w4.frozen? ⟨w.heap.size + 1, 2, none⟩ = false := HR4.out.fr 2 (by decide)
  go_wp2
  have HP := HR4.out.all [.int .i64 nx, .slice B1 lt.length d1, .slice B2 pl.length d2] rfl
  have HGP := grew_put (w := w) (w.heap.size + 1) (by omega) [.int .i64 nx, .slice B1 lt.length d1, .slice B2 pl.length d2] 0 _ HG4.out
  have P1 := OwnE.put (b := w.heap.size + 1) (base := w.heap.size + 3) (by omega) [.int .i64 nx, .slice B1 lt.length d1, .slice B2 pl.length d2] 0 _ HO4.out
  have P2 := OwnE.put (b := w.heap.size + 1) (base := w.heap.size + 3) (by omega) [.int .i64 nx, .slice B1 lt.length d1, .slice B2 pl.length d2] 0 _ HP4.out
  change bodyPost _ _ _ _ _ (putC w4 (w.heap.size + 1) 0 [.int .i64 nx, .slice B1 lt.length d1, .slice B2 pl.length d2])
  clear y0 y1 y2 f0 f1 f2 i0 i1 i2
  generalize putC w4 (w.heap.size + 1) 0 [.int .i64 nx, .slice B1 lt.length d1, .slice B2 pl.length d2] = w9 at *
  have z0 : w9.cell? ⟨w.heap.size + 1, 0, none⟩ = _ := HP.at 0 _ rfl
  have z1 : w9.cell? ⟨w.heap.size + 1, 1, none⟩ = _ := HP.at 1 _ rfl
  have z2 : w9.cell? ⟨w.heap.size + 1, 2, none⟩ = _ := HP.at 2 _ rfl
  refine bodyPost_ret (v := .agg #[.int .i64 nx, .slice B1 lt.length d1, .slice B2 pl.length d2]) (by simp [results, Try.results10, go_sem, z0, z1, z2]) rfl ?_
  exact ⟨B1, B2, d1, d2, rfl, ⟨P1.mono (by omega), P2.mono (by omega), HAP.out⟩, HGP⟩

/-- A slice whose cells, if it has some, may be written. -/
def SpB (A : Option Addr) (n K base N : Nat) (w : World) : Prop := n = 0 ∨ ∃ g, A = some ⟨g, 0, none⟩ ∧ base ≤ g ∧ g < N ∧ Slab w g (n * K)
theorem SpB.set {A : Option Addr} {n K base N : Nat} {w : World} (h : SpB A n K base N w) (b k : Nat) (u : Value) : SpB A n K base N (w.setCell ⟨b, k, none⟩ u) := by
  rcases h with h | ⟨g, e, h1, h2, h3⟩
  · exact Or.inl h
  · exact Or.inr ⟨g, e, h1, h2, h3.set b k u⟩
theorem SpB.keep {A : Option Addr} {n K base N : Nat} {w w' : World} (h : SpB A n K base N w) (g : Grew w w') : SpB A n K base N w' := by
  rcases h with h | ⟨b, e, h1, h2, h3⟩
  · exact Or.inl h
  · exact Or.inr ⟨b, e, h1, h2, h3.keep g⟩
theorem OwnE.spb {α : Type} {E : En α} {w : World} {base : Nat} {t : TypeId} {A : Option Addr} {n c : Nat} {l : List α} (h : OwnE E w base t (.slice A n c) l) : SpB A n E.size base w.heap.size w := by
  obtain ⟨A', c', e, h2⟩ := h.slab
  cases e
  rcases h2 with h2 | ⟨g, e, h3, h4⟩
  · exact Or.inl h2
  · exact Or.inr ⟨g, e, h3, h4.1, h4⟩

set_option maxRecDepth 100000 in
set_option maxHeartbeats 4000000 in
theorem spoilBook_any (nx : Int) (A1 A2 : Option Addr) (n1 n2 c1 c2 base : Nat) (w : World) (h1 : SpB A1 n1 7 base w.heap.size w) (h2 : SpB A2 n2 4 base w.heap.size w) (hb0 : base ≤ w.heap.size) (hn : n1 ≤ 1000000 ∧ n2 ≤ 1000000) :
    Calls Try.prog 21 #[vBk nx A1 A2 n1 n2 c1 c2] w fun e w' => e = .returned (.tuple #[]) ∧ Below base w w' := by
  have H1 := Lib.hid h1
  have H2 := Lib.hid h2
  have HB0 := Lib.hid hb0
  clear h1 h2 hb0
  dsimp only [vBk]
  go_enter Try.func21, Try.ntmps21
  go_wp2
  go_loopw [2] (fun vi wr => ∃ k : Nat, vi = .int .i64 k ∧ k ≤ n1 ∧ Hid (SpB A1 n1 7 base w.heap.size wr) ∧ Hid (SpB A2 n2 4 base w.heap.size wr) ∧ Hid (Below base w wr) ∧ Hid (OwnC wr w.heap.size [.int .i64 nx, .slice A1 n1 c1, .slice A2 n2 c2])) (fun vi _ => n1 - (intOf vi).toNat)
  case atStart => exact ⟨0, rfl, Nat.zero_le _, H1.out.keep (grew_alloc _ _ _), H2.out.keep (grew_alloc _ _ _), Below.mono (grew_alloc _ _ _) HB0.out, OwnC.new w [.int .i64 nx, .slice A1 n1 c1, .slice A2 n2 c2] _ _ rfl⟩
  case round =>
    obtain ⟨k, rfl, hk, HS1, HS2, HB, HC⟩ := hrel
    have x1 : wr.cell? ⟨w.heap.size, 1, none⟩ = some (.slice A1 n1 c1) := HC.out.at 1 _ rfl
    by_cases hlt : k < n1
    · have HSS := Lib.hid HS1.out
      obtain ⟨g, rfl, hb, hgN, hs⟩ : ∃ g, A1 = some ⟨g, 0, none⟩ ∧ base ≤ g ∧ g < w.heap.size ∧ Slab wr g (n1 * 7) := by
        rcases HSS.out with h | h
        · omega
        · exact h
      obtain ⟨⟨x, a1⟩, a2⟩ := hs.2 (k * 7) (by omega)
      have a3 : (k : Int) < (n1 : Int) := by omega
      have HB2 : Hid (Below base w (wr.setCell ⟨g, k * 7, none⟩ (.int .i64 (-77)))) := Below.setCell HB.out hb _
      have HT1 := Lib.hid (HS1.out.set g (k * 7) (.int .i64 (-77)))
      have HT2 := Lib.hid (HS2.out.set g (k * 7) (.int .i64 (-77)))
      have HC2 := Lib.hid (HC.out.other ⟨g, k * 7, none⟩ (.int .i64 (-77)) (by show g ≠ _; omega))
      clear HSS hs
      go_wp2
      go_roundw
      case rel => exact ⟨k + 1, by go_num, by omega, HT1.out, HT2.out, HB2, HC2.out⟩
      case measure => simp only [intOf]; omega
    · have hge : ¬ (k : Int) < (n1 : Int) := by omega
      have x2 : wr.cell? ⟨w.heap.size, 2, none⟩ = some (.slice A2 n2 c2) := HC.out.at 2 _ rfl
      have HSA : Hid (n2 = 0 ∨ ∃ g, A2 = some ⟨g, 0, none⟩ ∧ base ≤ g ∧ Slab wr g (n2 * 4)) := by
        rcases HS2.out with h | ⟨g, e, h1, h2, h3⟩
        · exact Or.inl h
        · exact Or.inr ⟨g, e, h1, h3⟩
      have CP := spoilPoss_any A2 n2 c2 base wr HSA.out hn.2
      clear hlt hk
      go_wp2_with (go_at_call 47; ((with_reducible refine CP.mono ?_); rintro e w5 ⟨rfl, hb, -⟩; have HB5 := Lib.hid (Below.trans HB.out hb); clear hb CP))
      go_end0
      exact ⟨rfl, HB5.out⟩
end Go.Proofs.Ytkbmiajgmnfpfaa.NumK
