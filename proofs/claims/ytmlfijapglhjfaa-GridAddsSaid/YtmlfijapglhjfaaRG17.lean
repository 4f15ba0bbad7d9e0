/- The laws' wakes: the margin of one position. -/
import Derived.Test.YtmlfijapglhjfaaRG15
import Derived.Test.YtmlfijapglhjfaaRG3
import Derived.Test.YtmlfijapglhjfaaRG8
import Derived.Deep.Slices
import Derived.Deep.CutBlock
import Derived.Test.YtmlfijapglhjfaaRG13
import Derived.Test.YtmlfijapglhjfaaRG2
import Derived.Deep.RegionHeld3
import Derived.Lib.Walk
import Derived.Lib.SliceRun
namespace Go.Proofs.Ytmlfijapglhjfaa.NumK
open Go.RowKit
set_option linter.unusedVariables false

def wkIn : In := ((3, 0, 10, 0, 0, 0), (3, -2, 0, 0, 0, 0))
theorem wk_marg : margE ([], [wkIn], []) 1 0 [(1, 3, 5, 0)] = 0 ∧ margN ([], [wkIn], []) 1 0 [(1, 3, 5, 0)] = 100 := by
  have hr : rightR ([], [wkIn], []) = true := by decide
  have hq : qsOK [(1, 3, 5, 0)] = true := by decide
  have hc : cntG ([], [wkIn], []) 1 0 (1, 3, 5, 0) = true := by decide
  have hL : ∀ j, j < 6 → (lossV ([], [wkIn], []) 1 0 [(1, 3, 5, 0)] j = if j = 0 then -150 else if j = 1 then 100 else 0) := fun j hj => by
    rcases j with _ | _ | _ | _ | _ | _ | j <;> first | decide | omega
  have hl : lossE ([], [wkIn], []) 1 0 [(1, 3, 5, 0)] = 0 := lossE_iff.2 ⟨hr, hq, lossOK_iff.2 fun j hj => by
    rw [hL j hj]; split
    · decide
    · split <;> decide⟩
  have hm : margV ([], [wkIn], []) 1 0 [(1, 3, 5, 0)] = 100 := by decide
  obtain ⟨e1, e2⟩ := marg_ok hl
  rw [e1, e2, hm]
  decide

set_option maxRecDepth 100000 in
set_option maxHeartbeats 2000000 in
theorem wakes15_any (w : World) : Calls Try.prog 17 #[] w fun e w' => e = .returned (.bool true) ∧ Grew w w' := by
  have CM := fun (B : Option Addr) (D : Option Addr) w' (h : RowE enIn w' B 1 [wkIn]) (h2 : RowE enPo w' D 1 [(1, 3, 5, 0)]) => margin_any ([], [wkIn], []) none B none D 0 1 0 0 1 0 1 1 1 0 [(1, 3, 5, 0)] w' ⟨RowE.nil _ _ _, h, RowE.nil _ _ _⟩ (by omega) h2 (by omega)
  rw [wk_marg.1, wk_marg.2] at CM
  dsimp only [rlV] at CM
  have HI : Hid (RowE enIn (w.alloc (.cells #[.int .i64 3, .int .i64 0, .int .i64 10, .int .i64 0, .int .i64 0, .int .i64 0, .int .i64 3, .int .i64 (-2), .int .i64 0, .int .i64 0, .int .i64 0, .int .i64 0] 49)) (some ⟨w.heap.size, 0, none⟩) 1 [wkIn]) := RowE.one1 enIn w wkIn _ _ _ rfl rfl
  go_enter Try.func17, Try.ntmps17
  go_upto_region 2 with (fail)
  have HX0 := Lib.hid (OwnC.new (w.alloc (.cells #[.int .i64 3, .int .i64 0, .int .i64 10, .int .i64 0, .int .i64 0, .int .i64 0, .int .i64 3, .int .i64 (-2), .int .i64 0, .int .i64 0, .int .i64 0, .int .i64 0] 49)) [.slice none 0 0, .slice (some ⟨w.heap.size, 0, none⟩) 1 1, .slice none 0 0] 26 (w.heap.size + 1) (by simp))
  have HG0 : Hid (Grew w ((w.alloc (.cells #[.int .i64 3, .int .i64 0, .int .i64 10, .int .i64 0, .int .i64 0, .int .i64 0, .int .i64 3, .int .i64 (-2), .int .i64 0, .int .i64 0, .int .i64 0, .int .i64 0] 49)).alloc (.cells #[.slice none 0 0, .slice (some ⟨w.heap.size, 0, none⟩) 1 1, .slice none 0 0] 26))) := grew_trans (grew_alloc _ _ _) (grew_alloc _ _ _)
  have HI0 := Lib.hid (HI.out.keep (grew_alloc _ #[.slice none 0 0, .slice (some ⟨w.heap.size, 0, none⟩) 1 1, .slice none 0 0] 26))
  clear HI
  dsimp only [List.toArray] at HX0
  generalize ((w.alloc (.cells #[.int .i64 3, .int .i64 0, .int .i64 10, .int .i64 0, .int .i64 0, .int .i64 0, .int .i64 3, .int .i64 (-2), .int .i64 0, .int .i64 0, .int .i64 0, .int .i64 0] 49)).alloc (.cells #[.slice none 0 0, .slice (some ⟨w.heap.size, 0, none⟩) 1 1, .slice none 0 0] 26)) = w0 at *
  have r0 := HX0.out.at 0 (.slice none 0 0) rfl; have r1 := HX0.out.at 1 (.slice (some ⟨w.heap.size, 0, none⟩) 1 1) rfl; have r2 := HX0.out.at 2 (.slice none 0 0) rfl
  have HI1 := Lib.hid (HI0.out.keep (grew_alloc w0 #[.int .i64 1, .int .i64 3, .int .i64 5, .int .i64 0] 46))
  have HP1 : Hid (RowE enPo (w0.alloc (.cells #[.int .i64 1, .int .i64 3, .int .i64 5, .int .i64 0] 46)) (some ⟨w0.heap.size, 0, none⟩) 1 [(1, 3, 5, 0)]) := RowE.one1 enPo w0 (1, 3, 5, 0) _ _ _ rfl rfl
  go_wp2_with (go_at_call 13; ((with_reducible refine (CM _ _ _ HI1.out HP1.out).mono ?_); rintro e w1 ⟨rfl, hg⟩; have HG1 := Lib.hid (grew_trans (grew_trans HG0.out (grew_alloc _ _ _)) hg); clear hg))
  go_ret
  exact ⟨rfl, HG1.out⟩
end Go.Proofs.Ytmlfijapglhjfaa.NumK
namespace Go.Proofs.Ytmlfijapglhjfaa.NumK
open Go.RowKit Go.ChangeShapes Go.WideShapes
set_option linter.unusedVariables false

/-! ### rolls among the arguments -/
abbrev spI : Sp Int := spInt .i64
abbrev spMb : Sp Mb := spPair spI (spPair spI spI)
abbrev spAs : Sp As := spPair spI (spPair spI (spPair spI spI))
abbrev spSh : Sp (List Int) := spArr 6 spI
abbrev spInA : Sp (Int × Int × Int × Int × Int × Int × List Int) := spPair spI (spPair spI (spPair spI (spPair spI (spPair spI (spPair spI spSh)))))
def toIn (x : Int × Int × Int × Int × Int × Int × List Int) : In :=
  ((x.1, x.2.1, x.2.2.1, x.2.2.2.1, x.2.2.2.2.1, x.2.2.2.2.2.1), (x.2.2.2.2.2.2.getD 0 0, x.2.2.2.2.2.2.getD 1 0, x.2.2.2.2.2.2.getD 2 0, x.2.2.2.2.2.2.getD 3 0, x.2.2.2.2.2.2.getD 4 0, x.2.2.2.2.2.2.getD 5 0))
theorem opens_i : Opens Try.prog 3 spI := opens_int Try.underlying3 (by kernel_rfl)
theorem opens_member : Opens Try.prog 80 spMb :=
  opens_struct Try.underlying80 (by kernel_rfl) (Fs.cons _ _ 0 rfl opens_i (Fs.cons _ _ 1 rfl opens_i (Fs.last _ 2 rfl opens_i)))
theorem opens_asset : Opens Try.prog 88 spAs :=
  opens_struct Try.underlying88 (by kernel_rfl) (Fs.cons _ _ 0 rfl opens_i (Fs.cons _ _ 1 rfl opens_i (Fs.cons _ _ 2 rfl opens_i (Fs.last _ 3 rfl opens_i))))
theorem opens_shifts : Opens Try.prog 31 spSh := opens_arr Try.underlying31 (by kernel_rfl) opens_i
theorem opens_instA : Opens Try.prog 49 spInA :=
  opens_struct Try.underlying49 (by kernel_rfl) (Fs.cons _ _ 0 rfl opens_i (Fs.cons _ _ 1 rfl opens_i (Fs.cons _ _ 2 rfl opens_i (Fs.cons _ _ 3 rfl opens_i (Fs.cons _ _ 4 rfl opens_i (Fs.cons _ _ 5 rfl opens_i (Fs.last _ 6 rfl opens_shifts)))))))

theorem sh_cells {w : World} {cs : List Value} {l : List Int} (h : spSh.rd w cs l) : cs = [.int .i64 (l.getD 0 0), .int .i64 (l.getD 1 0), .int .i64 (l.getD 2 0), .int .i64 (l.getD 3 0), .int .i64 (l.getD 4 0), .int .i64 (l.getD 5 0)] := by
  obtain ⟨h1, h2, h3⟩ := h
  have h2 : cs.length = 6 := h2
  have e : ∀ j (hj : j < 6), cs[j]'(by omega) = .int .i64 (l.getD j 0) := by
    intro j hj
    have h4 : ((cs.drop (j * 1)).take 1) = [.int .i64 l[j]] := (h3 j (by omega)).1
    rw [Nat.mul_one] at h4
    have h5 : ((cs.drop j).take 1)[0]? = some (.int .i64 l[j]) := by rw [h4]; rfl
    rw [List.getElem?_take, if_pos (by omega), List.getElem?_drop, Nat.add_zero, List.getElem?_eq_getElem (by omega)] at h5
    rw [Option.some.inj h5]
    simp [List.getD, show j < l.length by omega]
  obtain ⟨a, b, c, d, x, y, rfl⟩ : ∃ a b c d x y, cs = [a, b, c, d, x, y] := by
    match cs, h2 with
    | [a, b, c, d, x, y], _ => exact ⟨a, b, c, d, x, y, rfl⟩
  · have e0 : a = _ := e 0 (by omega); have e1 : b = _ := e 1 (by omega); have e2 : c = _ := e 2 (by omega); have e3 : d = _ := e 3 (by omega); have e4 : x = _ := e 4 (by omega); have e5 : y = _ := e 5 (by omega)
    rw [e0, e1, e2, e3, e4, e5]
theorem in_cells {w : World} {cs : List Value} {a} (h : spInA.rd w cs a) : cs = enIn.cs (toIn a) := by
  obtain ⟨c1, d1, rfl, ⟨rfl, _⟩, c2, d2, rfl, ⟨rfl, _⟩, c3, d3, rfl, ⟨rfl, _⟩, c4, d4, rfl, ⟨rfl, _⟩, c5, d5, rfl, ⟨rfl, _⟩, c6, d6, rfl, ⟨rfl, _⟩, hs⟩ := h
  have := sh_cells hs
  subst this
  rfl
def spIn : Sp In := spMap toIn spInA
theorem opens_inst : Opens Try.prog 49 spIn := opens_map toIn opens_instA
theorem in_rd {w : World} {cs : List Value} {a : In} (h : spIn.rd w cs a) : cs = enIn.cs a := by
  obtain ⟨x, hx, rfl⟩ := h
  exact in_cells hx
theorem mb_rd {w : World} {cs : List Value} {a : Mb} (h : spMb.rd w cs a) : cs = enMb.cs a := by
  obtain ⟨c1, d1, rfl, ⟨rfl, _⟩, c2, d2, rfl, ⟨rfl, _⟩, rfl, _⟩ := h
  rfl
theorem as_rd {w : World} {cs : List Value} {a : As} (h : spAs.rd w cs a) : cs = enAs.cs a := by
  obtain ⟨c1, d1, rfl, ⟨rfl, _⟩, c2, d2, rfl, ⟨rfl, _⟩, c3, d3, rfl, ⟨rfl, _⟩, rfl, _⟩ := h
  rfl
theorem rowE_of {α : Type} {A : Sp α} {E : En α} (hs : E.size = A.size) (hf : ∀ w cs a, A.rd w cs a → cs = E.cs a) {w : World} {ad : Option Addr} {n : Nat} {l : List α} (h : Row A w ad n l) : RowE E w ad n l := by
  have := Row.imp (A := A) (B := E.sp) (fun x => x) hs (fun cs a hr => hf w cs a hr) h
  rwa [List.map_id'] at this
abbrev spRl : Sp Rl := spPair (spSlice spMb) (spPair (spSlice spIn) (spSlice spAs))
theorem opens_members : Opens Try.prog 22 (spSlice spMb) := opens_slice Try.underlying22 (by kernel_rfl) opens_member (by decide)
theorem opens_insts : Opens Try.prog 23 (spSlice spIn) := opens_slice Try.underlying23 (by kernel_rfl) opens_inst (by decide)
theorem opens_assets : Opens Try.prog 24 (spSlice spAs) := opens_slice Try.underlying24 (by kernel_rfl) opens_asset (by decide)
theorem opens_roll : Opens Try.prog 26 spRl :=
  opens_struct Try.underlying26 (by kernel_rfl) (Fs.cons _ _ 0 rfl opens_members (Fs.cons _ _ 1 rfl opens_insts (Fs.last _ 2 rfl opens_assets)))
theorem roll_of {w : World} {cs : Array Value} {r : Rl} (h : spRl.rd w cs.toList r) : ∃ A1 A2 A3 n1 n2 n3 c1 c2 c3, Value.agg cs = rlV A1 A2 A3 n1 n2 n3 c1 c2 c3 ∧ In3 w r A1 A2 A3 n1 n2 n3 c1 c2 c3 := by
  obtain ⟨x1, y1, e, ⟨A1, n1, c1, rfl, hr1, hk1, hl1, hm1⟩, x2, y2, rfl, ⟨A2, n2, c2, rfl, hr2, hk2, hl2, hm2⟩, A3, n3, c3, rfl, hr3, hk3, hl3, hm3⟩ := h
  unfold maxLen at hm1 hm2 hm3
  refine ⟨A1, A2, A3, n1, n2, n3, c1, c2, c3, ?_, ⟨rowE_of rfl (fun _ _ _ => mb_rd) hr1, rowE_of rfl (fun _ _ _ => in_rd) hr2, rowE_of rfl (fun _ _ _ => as_rd) hr3⟩, hk1, hk2, hk3, ⟨hl1, by omega⟩, ⟨hl2, by omega⟩, ⟨hl3, by omega⟩⟩
  congr 1
  exact Array.toList_inj.1 (by rw [e]; rfl)
/-! ### Heavy -/
def heavyR (n1 n2 n3 : Nat) : Bool := decide (n1 > 100) || (decide (n2 > 100) || decide (n3 > 100))
set_option maxRecDepth 100000 in
theorem heavy11_any (A1 A2 A3 : Option Addr) (n1 n2 n3 c1 c2 c3 : Nat) (w : World) :
    Calls Try.prog 8 #[rlV A1 A2 A3 n1 n2 n3 c1 c2 c3] w fun e w' => e = .returned (.bool (heavyR n1 n2 n3)) ∧ Grew w w' := by
  have HH : Hid (heavyR n1 n2 n3 = (decide (n1 > 100) || (decide (n2 > 100) || decide (n3 > 100)))) := rfl
  generalize heavyR n1 n2 n3 = H at *
  dsimp only [rlV]
  by_cases h1 : n1 > 100
  · have HF : Hid (H = true) := by show _ = _; rw [HH.out, decide_eq_true h1]; rfl
    have j1 : (n1 : Int) > 100 := by omega
    go_enter Try.func8, Try.ntmps8
    go_wp2
    go_ret
    exact ⟨ret_b HF.out.symm, grew_alloc _ _ _⟩
  · have j1 : ¬ (n1 : Int) > 100 := by omega
    by_cases h2 : n2 > 100
    · have HF : Hid (H = true) := by show _ = _; rw [HH.out, decide_eq_true h2]; simp
      have j2 : (n2 : Int) > 100 := by omega
      go_enter Try.func8, Try.ntmps8
      go_wp2
      go_ret
      exact ⟨ret_b HF.out.symm, grew_alloc _ _ _⟩
    · have j2 : ¬ (n2 : Int) > 100 := by omega
      by_cases h3 : n3 > 100
      · have HF : Hid (H = true) := by show _ = _; rw [HH.out, decide_eq_true h3]; simp
        have j3 : (n3 : Int) > 100 := by omega
        go_enter Try.func8, Try.ntmps8
        go_wp2
        go_ret
        exact ⟨ret_b HF.out.symm, grew_alloc _ _ _⟩
      · have HF : Hid (H = false) := by show _ = _; rw [HH.out, decide_eq_false h1, decide_eq_false h2, decide_eq_false h3]; rfl
        have j3 : ¬ (n3 : Int) > 100 := by omega
        go_enter Try.func8, Try.ntmps8
        go_wp2
        go_ret
        exact ⟨ret_b HF.out.symm, grew_alloc _ _ _⟩
end Go.Proofs.Ytmlfijapglhjfaa.NumK
namespace Go.Proofs.Ytmlfijapglhjfaa.NumK
open Go.RowKit
set_option linter.unusedVariables false

set_option maxRecDepth 100000 in
set_option maxHeartbeats 4000000 in
theorem twinRoll_any (r : Rl) (A1 A2 A3 : Option Addr) (n1 n2 n3 c1 c2 c3 : Nat) (w : World) (h : In3 w r A1 A2 A3 n1 n2 n3 c1 c2 c3) (hn : n1 ≤ 1000000 ∧ n2 ≤ 1000000 ∧ n3 ≤ 1000000) :
    Calls Try.prog 9 #[rlV A1 A2 A3 n1 n2 n3 c1 c2 c3] w (RollQ r w) := by
  have HI := Lib.hid h
  have HL1 := Lib.hid h.rows.m.len
  have HL2 := Lib.hid h.rows.i.len
  have HL3 := Lib.hid h.rows.h.len
  clear h
  dsimp only [rlV]
  go_enter Try.func9, Try.ntmps9
  go_upto_region 2 with fail
  have HG0 : Hid (Grew w (((w.alloc (.cells #[.slice A1 n1 c1, .slice A2 n2 c2, .slice A3 n3 c3] 26)).alloc (.cells #[.slice none 0 0, .slice none 0 0, .slice none 0 0] 26)).alloc (.cells #[.slice none 0 0, .slice none 0 0, .slice none 0 0] 26))) := grew_trans (grew_trans (grew_alloc _ _ _) (grew_alloc _ _ _)) (grew_alloc _ _ _)
  have HX0 : Hid (OwnC (((w.alloc (.cells #[.slice A1 n1 c1, .slice A2 n2 c2, .slice A3 n3 c3] 26)).alloc (.cells #[.slice none 0 0, .slice none 0 0, .slice none 0 0] 26)).alloc (.cells #[.slice none 0 0, .slice none 0 0, .slice none 0 0] 26)) w.heap.size [.slice A1 n1 c1, .slice A2 n2 c2, .slice A3 n3 c3]) := ((OwnC.new w [.slice A1 n1 c1, .slice A2 n2 c2, .slice A3 n3 c3] _ _ rfl).keep (grew_alloc _ _ _)).keep (grew_alloc _ _ _)
  have HY0 : Hid (OwnC (((w.alloc (.cells #[.slice A1 n1 c1, .slice A2 n2 c2, .slice A3 n3 c3] 26)).alloc (.cells #[.slice none 0 0, .slice none 0 0, .slice none 0 0] 26)).alloc (.cells #[.slice none 0 0, .slice none 0 0, .slice none 0 0] 26)) (w.heap.size + 1) [.slice none 0 0, .slice none 0 0, .slice none 0 0]) := (OwnC.new _ [.slice none 0 0, .slice none 0 0, .slice none 0 0] _ _ (by simp)).keep (grew_alloc _ _ _)
  have HZ0 : Hid (OwnC (((w.alloc (.cells #[.slice A1 n1 c1, .slice A2 n2 c2, .slice A3 n3 c3] 26)).alloc (.cells #[.slice none 0 0, .slice none 0 0, .slice none 0 0] 26)).alloc (.cells #[.slice none 0 0, .slice none 0 0, .slice none 0 0] 26)) (w.heap.size + 1 + 1) [.slice none 0 0, .slice none 0 0, .slice none 0 0]) := OwnC.new _ [.slice none 0 0, .slice none 0 0, .slice none 0 0] _ _ (by simp)
  have HSZ : Hid (w.heap.size + 3 ≤ (((w.alloc (.cells #[.slice A1 n1 c1, .slice A2 n2 c2, .slice A3 n3 c3] 26)).alloc (.cells #[.slice none 0 0, .slice none 0 0, .slice none 0 0] 26)).alloc (.cells #[.slice none 0 0, .slice none 0 0, .slice none 0 0] 26)).heap.size) := by show _ ≤ _; simp
  generalize (((w.alloc (.cells #[.slice A1 n1 c1, .slice A2 n2 c2, .slice A3 n3 c3] 26)).alloc (.cells #[.slice none 0 0, .slice none 0 0, .slice none 0 0] 26)).alloc (.cells #[.slice none 0 0, .slice none 0 0, .slice none 0 0] 26)) = w0 at *
  have x0 : w0.cell? ⟨w.heap.size, 0, none⟩ = some (.slice A1 n1 c1) := HX0.out.at 0 _ rfl
  have z0 : w0.cell? ⟨w.heap.size + 1 + 1, 0, none⟩ = some (.slice none 0 0) := HZ0.out.at 0 _ rfl
  go_upto_region 5 with (first
    | (at_builtin; refine (wpList_append_E rfl _ _ 22 80 (vMb mb0) 24 rfl Try.underlying22 info_mb rfl (w0).heap.size _ [] rfl (OwnE.nil enMb _ _ _) A1 n1 c1 r.1 rfl HI.out.k1 (HI.out.rows.m.keep HG0.out) (by simp; unfold maxLen; omega) (by simp; omega) (Nat.le_refl _) ?_); intro v' w1 ho hb; rw [List.nil_append] at ho; obtain ⟨B1, d1, rfl, -⟩ := ho.form; have HBk1 := Lib.hid ho.block; have HSk1 := Lib.hid hb.size; have HX1 := Lib.hid ((HX0.out).keep hb); have HY1 := Lib.hid ((HY0.out).keep hb); have HZp := ((HZ0.out).keep hb); have z0f : w1.frozen? ⟨w.heap.size + 1 + 1, 0, none⟩ = false := HZp.fr 0 (by show 0 < 3; omega); have z0c : w1.cell? ⟨w.heap.size + 1 + 1, 0, none⟩ = some (.slice none 0 0) := HZp.at 0 _ rfl; have z1c : w1.cell? ⟨w.heap.size + 1 + 1, 1, none⟩ = some (.slice none 0 0) := HZp.at 1 _ rfl; have x1 : w1.cell? ⟨w.heap.size, 1, none⟩ = some (.slice A2 n2 c2) := HX1.out.at 1 _ rfl; have HZ1 := Lib.hid (HZp.set 0 (.slice B1 r.1.length d1) (by show 0 < 3; omega)); have HX1 := Lib.hid (HX1.out.other ⟨w.heap.size + 1 + 1, 0, none⟩ (.slice B1 r.1.length d1) (by show _ + 1 + 1 ≠ _; omega)); have HY1 := Lib.hid (HY1.out.other ⟨w.heap.size + 1 + 1, 0, none⟩ (.slice B1 r.1.length d1) (by show _ + 1 + 1 ≠ _; omega)); have HGp : Hid (Grew w w1) := grew_trans HG0.out hb; have HGs1 : Hid (Grew w (w1.setCell ⟨w.heap.size + 1 + 1, 0, none⟩ (.slice B1 r.1.length d1))) := grew_set HGp.out _ (by show _ ≤ _ + 1 + 1; omega); have HSZ1 : Hid (w.heap.size + 3 ≤ (w1.setCell ⟨w.heap.size + 1 + 1, 0, none⟩ (.slice B1 r.1.length d1)).heap.size) := le_set _ _ (Nat.le_trans HSZ.out hb.size); have HO1 := Lib.hid ((ho.mono HSZ.out).set (w.heap.size + 1 + 1) 0 (.slice B1 r.1.length d1) (by omega)); clear ho hb HZp HGp)
    | (at_builtin; refine (wpList_append_E rfl _ _ 23 49 (vIn in0) 96 rfl Try.underlying23 info_in rfl ((w1.setCell ⟨w.heap.size + 1 + 1, 0, none⟩ (.slice B1 r.1.length d1))).heap.size _ [] rfl (OwnE.nil enIn _ _ _) A2 n2 c2 r.2.1 rfl HI.out.k2 (HI.out.rows.i.keep HGs1.out) (by simp; unfold maxLen; omega) (by simp; omega) (Nat.le_refl _) ?_); intro v' w2 ho hb; rw [List.nil_append] at ho; obtain ⟨B2, d2, rfl, -⟩ := ho.form; have HBk2 := Lib.hid ho.block; have HSk2 := Lib.hid hb.size; have HA12 := Lib.hid (apart_of HBk1.out HBk2.out (Nat.le_of_eq (size_set _ _ _).symm)); have HX2 := Lib.hid ((HX1.out).keep hb); have HY2 := Lib.hid ((HY1.out).keep hb); have HZp := ((HZ1.out).keep hb); have z1f : w2.frozen? ⟨w.heap.size + 1 + 1, 1, none⟩ = false := HZp.fr 1 (by show 1 < 3; omega); have z1c : w2.cell? ⟨w.heap.size + 1 + 1, 1, none⟩ = some (.slice none 0 0) := HZp.at 1 _ rfl; have z2c : w2.cell? ⟨w.heap.size + 1 + 1, 2, none⟩ = some (.slice none 0 0) := HZp.at 2 _ rfl; have x2 : w2.cell? ⟨w.heap.size, 2, none⟩ = some (.slice A3 n3 c3) := HX2.out.at 2 _ rfl; have HZ2 := Lib.hid (HZp.set 1 (.slice B2 r.2.1.length d2) (by show 1 < 3; omega)); have HX2 := Lib.hid (HX2.out.other ⟨w.heap.size + 1 + 1, 1, none⟩ (.slice B2 r.2.1.length d2) (by show _ + 1 + 1 ≠ _; omega)); have HY2 := Lib.hid (HY2.out.other ⟨w.heap.size + 1 + 1, 1, none⟩ (.slice B2 r.2.1.length d2) (by show _ + 1 + 1 ≠ _; omega)); have HGp : Hid (Grew w w2) := grew_trans HGs1.out hb; have HGs2 : Hid (Grew w (w2.setCell ⟨w.heap.size + 1 + 1, 1, none⟩ (.slice B2 r.2.1.length d2))) := grew_set HGp.out _ (by show _ ≤ _ + 1 + 1; omega); have HSZ2 : Hid (w.heap.size + 3 ≤ (w2.setCell ⟨w.heap.size + 1 + 1, 1, none⟩ (.slice B2 r.2.1.length d2)).heap.size) := le_set _ _ (Nat.le_trans HSZ1.out hb.size); have HO2 := Lib.hid ((ho.mono HSZ1.out).set (w.heap.size + 1 + 1) 1 (.slice B2 r.2.1.length d2) (by omega)); have HO1 := Lib.hid ((HO1.out.keep hb).set (w.heap.size + 1 + 1) 1 (.slice B2 r.2.1.length d2) (by omega)); clear ho hb HZp HGp)
    | (at_builtin; refine (wpList_append_E rfl _ _ 24 88 (vAs as0) 32 rfl Try.underlying24 info_as rfl ((w2.setCell ⟨w.heap.size + 1 + 1, 1, none⟩ (.slice B2 r.2.1.length d2))).heap.size _ [] rfl (OwnE.nil enAs _ _ _) A3 n3 c3 r.2.2 rfl HI.out.k3 (HI.out.rows.h.keep HGs2.out) (by simp; unfold maxLen; omega) (by simp; omega) (Nat.le_refl _) ?_); intro v' w3 ho hb; rw [List.nil_append] at ho; obtain ⟨B3, d3, rfl, -⟩ := ho.form; have HBk3 := Lib.hid ho.block; have HSk3 := Lib.hid hb.size; have HA23 := Lib.hid (apart_of HBk2.out HBk3.out (Nat.le_of_eq (size_set _ _ _).symm)); have HA13 := Lib.hid (apart_of HBk1.out HBk3.out (by rw [size_set]; have := HSk2.out; rw [size_set] at this; exact this)); have HX3 := Lib.hid ((HX2.out).keep hb); have HY3 := Lib.hid ((HY2.out).keep hb); have HZp := ((HZ2.out).keep hb); have z2f : w3.frozen? ⟨w.heap.size + 1 + 1, 2, none⟩ = false := HZp.fr 2 (by show 2 < 3; omega); have z2c : w3.cell? ⟨w.heap.size + 1 + 1, 2, none⟩ = some (.slice none 0 0) := HZp.at 2 _ rfl; have HZ3 := Lib.hid (HZp.set 2 (.slice B3 r.2.2.length d3) (by show 2 < 3; omega)); have HX3 := Lib.hid (HX3.out.other ⟨w.heap.size + 1 + 1, 2, none⟩ (.slice B3 r.2.2.length d3) (by show _ + 1 + 1 ≠ _; omega)); have HY3 := Lib.hid (HY3.out.other ⟨w.heap.size + 1 + 1, 2, none⟩ (.slice B3 r.2.2.length d3) (by show _ + 1 + 1 ≠ _; omega)); have HGp : Hid (Grew w w3) := grew_trans HGs2.out hb; have HGs3 : Hid (Grew w (w3.setCell ⟨w.heap.size + 1 + 1, 2, none⟩ (.slice B3 r.2.2.length d3))) := grew_set HGp.out _ (by show _ ≤ _ + 1 + 1; omega); have HSZ3 : Hid (w.heap.size + 3 ≤ (w3.setCell ⟨w.heap.size + 1 + 1, 2, none⟩ (.slice B3 r.2.2.length d3)).heap.size) := le_set _ _ (Nat.le_trans HSZ2.out hb.size); have HO3 := Lib.hid ((ho.mono HSZ2.out).set (w.heap.size + 1 + 1) 2 (.slice B3 r.2.2.length d3) (by omega)); have HO1 := Lib.hid ((HO1.out.keep hb).set (w.heap.size + 1 + 1) 2 (.slice B3 r.2.2.length d3) (by omega)); have HO2 := Lib.hid ((HO2.out.keep hb).set (w.heap.size + 1 + 1) 2 (.slice B3 r.2.2.length d3) (by omega)); clear ho hb HZp HGp))
  have HZ := Lib.hid HZ3.out
  have q0 : (w3.setCell ⟨w.heap.size + 1 + 1, 2, none⟩ (.slice B3 r.2.2.length d3)).cell? ⟨w.heap.size + 1 + 1, 0, none⟩ = some (.slice B1 r.1.length d1) := HZ3.out.at 0 _ rfl
  have q1 : (w3.setCell ⟨w.heap.size + 1 + 1, 2, none⟩ (.slice B3 r.2.2.length d3)).cell? ⟨w.heap.size + 1 + 1, 1, none⟩ = some (.slice B2 r.2.1.length d2) := HZ3.out.at 1 _ rfl
  have q2 : (w3.setCell ⟨w.heap.size + 1 + 1, 2, none⟩ (.slice B3 r.2.2.length d3)).cell? ⟨w.heap.size + 1 + 1, 2, none⟩ = some (.slice B3 r.2.2.length d3) := HZ3.out.at 2 _ rfl
  generalize w3.setCell ⟨w.heap.size + 1 + 1, 2, none⟩ (.slice B3 r.2.2.length d3) = w8 at *
  have y0 : w8.cell? ⟨w.heap.size + 1, 0, none⟩ = some (.slice none 0 0) := HY3.out.at 0 _ rfl
  have y1 : w8.cell? ⟨w.heap.size + 1, 1, none⟩ = some (.slice none 0 0) := HY3.out.at 1 _ rfl
  have y2 : w8.cell? ⟨w.heap.size + 1, 2, none⟩ = some (.slice none 0 0) := HY3.out.at 2 _ rfl
  have f0 : w8.frozen? ⟨w.heap.size + 1, 0, none⟩ = false := HY3.out.fr 0 (by decide)
  have f1 : w8.frozen? ⟨w.heap.size + 1, 1, none⟩ = false := HY3.out.fr 1 (by decide)
  have f2 : w8.frozen? ⟨w.heap.size + 1, 2, none⟩ = false := HY3.out.fr 2 (by decide)
  go_wp2
  have HP := HY3.out.all [Value.slice B1 r.1.length d1, .slice B2 r.2.1.length d2, .slice B3 r.2.2.length d3] rfl
  have HGP := grew_put (w.heap.size + 1) (Nat.le_succ _) [Value.slice B1 r.1.length d1, .slice B2 r.2.1.length d2, .slice B3 r.2.2.length d3] 0 _ HGs3.out
  have hb : w.heap.size + 1 < w.heap.size + 3 := by omega
  have P1 := OwnE.put hb [Value.slice B1 r.1.length d1, .slice B2 r.2.1.length d2, .slice B3 r.2.2.length d3] 0 _ HO1.out
  have P2 := OwnE.put hb [Value.slice B1 r.1.length d1, .slice B2 r.2.1.length d2, .slice B3 r.2.2.length d3] 0 _ HO2.out
  have P3 := OwnE.put hb [Value.slice B1 r.1.length d1, .slice B2 r.2.1.length d2, .slice B3 r.2.2.length d3] 0 _ HO3.out
  change bodyPost _ _ _ _ _ (putC w8 (w.heap.size + 1) 0 [.slice B1 r.1.length d1, .slice B2 r.2.1.length d2, .slice B3 r.2.2.length d3])
  generalize putC w8 (w.heap.size + 1) 0 [.slice B1 r.1.length d1, .slice B2 r.2.1.length d2, .slice B3 r.2.2.length d3] = w9 at *
  have z0 : w9.cell? ⟨w.heap.size + 1, 0, none⟩ = _ := HP.at 0 _ rfl
  have z1 : w9.cell? ⟨w.heap.size + 1, 1, none⟩ = _ := HP.at 1 _ rfl
  have z2 : w9.cell? ⟨w.heap.size + 1, 2, none⟩ = _ := HP.at 2 _ rfl
  refine bodyPost_ret (v := .agg #[.slice B1 r.1.length d1, .slice B2 r.2.1.length d2, .slice B3 r.2.2.length d3]) (by simp [results, Try.results9, go_sem, z0, z1, z2]) rfl ?_
  exact ⟨B1, B2, B3, d1, d2, d3, rfl, ⟨⟨P1.mono (by omega), P2.mono (by omega), P3.mono (by omega)⟩, HA12.out, HA13.out, HA23.out⟩, HGP⟩
end Go.Proofs.Ytmlfijapglhjfaa.NumK
namespace Go.Proofs.Ytmlfijapglhjfaa.NumK
open Go.RowKit

end Go.Proofs.Ytmlfijapglhjfaa.NumK
namespace Go.Proofs.Ytmlfijapglhjfaa.NumK
open Go.RowKit
set_option linter.unusedVariables false

def qtys (l : List Po) : List Int := l.map (·.2.2.1)
def csts (l : List Po) : List Int := l.map (·.2.2.2)
/-- What the sums tell. -/
def SumPost (l : List Po) (w : World) (e : Ending) (w' : World) : Prop := e = .returned (.tuple #[.int .i64 (sumPQ l), .int .i64 (sumPC l), .int .i64 (sumPE l)]) ∧ Grew w w'
end Go.Proofs.Ytmlfijapglhjfaa.NumK
namespace Go.Proofs.Ytmlfijapglhjfaa.NumK
open Go.RowKit
set_option linter.unusedVariables false

/-- The quantities of an instrument, so far. -/
def rowI (l : List Po) (k : Nat) : List Int := qtys (l.filter (isI (k : Int)))
theorem Fam.set {κ α : Type} {E : En α} {w : World} {base : Nat} {t : TypeId} {v : κ → Value} {rows : κ → List α} (h : Fam E w base t v rows) (b i : Nat) (u : Value) (hb : b < base) : Fam E (w.setCell ⟨b, i, none⟩ u) base t v rows :=
  ⟨fun k => (h.own k).set b i u hb, h.ne⟩
end Go.Proofs.Ytmlfijapglhjfaa.NumK
namespace Go.Proofs.Ytmlfijapglhjfaa.NumK
open Go.RowKit
set_option linter.unusedVariables false

end Go.Proofs.Ytmlfijapglhjfaa.NumK
namespace Go.Proofs.Ytmlfijapglhjfaa.NumK
open Go.RowKit
set_option linter.unusedVariables false

end Go.Proofs.Ytmlfijapglhjfaa.NumK
namespace Go.Proofs.Ytmlfijapglhjfaa.NumK
open Go.RowKit
set_option linter.unusedVariables false

end Go.Proofs.Ytmlfijapglhjfaa.NumK
namespace Go.Proofs.Ytmlfijapglhjfaa.NumK
open Go.RowKit
set_option linter.unusedVariables false

abbrev vBk (next : Int) (A1 A2 : Option Addr) (n1 n2 c1 c2 : Nat) : Value := .agg #[.int .i64 next, .slice A1 n1 c1, .slice A2 n2 c2]
/-- What of a book's slices is known whoever owns them. -/
structure InB (w : World) (b : Bk) (A1 A2 : Option Addr) (n1 n2 c1 c2 : Nat) : Prop where
  t : RowE enTr w A1 n1 b.2.1
  p : RowE enPo w A2 n2 b.2.2
  k1 : A1 = none → c1 = 0
  k2 : A2 = none → c2 = 0
  l1 : n1 ≤ c1 ∧ c1 ≤ 9223372036854775807
  l2 : n2 ≤ c2 ∧ c2 ≤ 9223372036854775807
section
variable {w w' : World} {base : Nat} {b : Bk} {A1 A2 : Option Addr} {n1 n2 c1 c2 : Nat}
theorem InB.keep (h : InB w b A1 A2 n1 n2 c1 c2) (g : Grew w w') : InB w' b A1 A2 n1 n2 c1 c2 := ⟨h.t.keep g, h.p.keep g, h.k1, h.k2, h.l1, h.l2⟩
end
def chkB (b : Bk) : Int := if rightB b then 0 else 14
/-! ### slices.Clone -/
end Go.Proofs.Ytmlfijapglhjfaa.NumK
namespace Go.Proofs.Ytmlfijapglhjfaa.NumK
open Go.RowKit Go.ChangeShapes Go.WideShapes
set_option linter.unusedVariables false

abbrev spTrA : Sp (Int × Int × Int × Int × Int × Int × Bool) := spPair spI (spPair spI (spPair spI (spPair spI (spPair spI (spPair spI spBool)))))
def toTr (x : Int × Int × Int × Int × Int × Int × Bool) : Tr := ((x.1, x.2.1, x.2.2.1, x.2.2.2.1, x.2.2.2.2.1, x.2.2.2.2.2.1), x.2.2.2.2.2.2)
def spTr : Sp Tr := spMap toTr spTrA
abbrev spKey : Sp (Int × Int) := spPair spI spI
abbrev spPoA : Sp ((Int × Int) × Int × Int) := spPair spKey (spPair spI spI)
def toPo (x : (Int × Int) × Int × Int) : Po := (x.1.1, x.1.2, x.2.1, x.2.2)
def spPo : Sp Po := spMap toPo spPoA
theorem opens_key : Opens Try.prog 44 spKey := opens_struct Try.underlying44 (by kernel_rfl) (Fs.cons _ _ 0 rfl opens_i (Fs.last _ 1 rfl opens_i))
theorem opens_pos : Opens Try.prog 46 spPo :=
  opens_map toPo (opens_struct Try.underlying46 (by kernel_rfl) (Fs.cons _ _ 0 rfl opens_key (Fs.cons _ _ 2 rfl opens_i (Fs.last _ 3 rfl opens_i))))
theorem po_rd {w : World} {cs : List Value} {a : Po} (h : spPo.rd w cs a) : cs = enPo.cs a := by
  obtain ⟨x, ⟨c0, d0, rfl, ⟨c1, d1, rfl, ⟨rfl, _⟩, rfl, _⟩, c3, d3, rfl, ⟨rfl, _⟩, rfl, _⟩, rfl⟩ := h
  rfl
theorem key_of {w : World} {cs : Array Value} {a : Int × Int} (h : spKey.rd w cs.toList a) : Value.agg cs = vKy a := by
  obtain ⟨c1, d1, e, ⟨rfl, _⟩, rfl, _⟩ := h
  congr 1
  exact Array.toList_inj.1 (by rw [e]; rfl)
theorem poss_of {w : World} {A : Option Addr} {n : Nat} {l : List Po} (h : Row spPo w A n l) : RowE enPo w A n l := rowE_of rfl (fun _ _ _ => po_rd) h
theorem opens_poss : Opens Try.prog 27 (spSlice spPo) := opens_slice Try.underlying27 (by kernel_rfl) opens_pos (by decide)
abbrev spBk : Sp Bk := spPair spI (spPair (spSlice spTr) (spSlice spPo))
end Go.Proofs.Ytmlfijapglhjfaa.NumK
namespace Go.Proofs.Ytmlfijapglhjfaa.NumK
open Go.RowKit
set_option linter.unusedVariables false

/-- Does a position count, by this instrument? -/
def hitI (who cur : Int) (p : Po) (i : In) : Bool := decide (noIn i = p.2.1) && (decide (i.1.2.1 = cur) && decide (p.1 = who))
def hitK (r : Rl) (who cur : Int) (p : Po) (k : Nat) : Bool := (r.2.1.take k).any (hitI who cur p)
theorem hitK_zero (r : Rl) (who cur : Int) (p : Po) : hitK r who cur p 0 = false := by unfold hitK; rw [List.take_zero]; rfl
theorem hitK_succ {r : Rl} {who cur : Int} {p : Po} {k : Nat} (hk : k < r.2.1.length) : hitK r who cur p (k + 1) = (hitK r who cur p k || hitI who cur p (r.2.1.getD k in0)) := by
  unfold hitK
  rw [List.take_succ_eq_append_getElem hk, List.any_append, getD_at _ _ _ hk]
  simp
/-- Numbers rise: what is hit now was not hit before. -/
theorem hitK_new {r : Rl} (h : Rise noIn r.2.1) {who cur : Int} {p : Po} {k : Nat} (hk : k < r.2.1.length) (hh : hitI who cur p (r.2.1.getD k in0) = true) : hitK r who cur p k = false := by
  unfold hitK
  rw [List.any_eq_false]
  intro x hx hc
  unfold Rise at h
  rw [List.pairwise_iff_getElem] at h
  obtain ⟨i, hi, rfl⟩ := List.getElem_of_mem hx
  rw [List.length_take] at hi
  have h1 := h i k (by omega) hk (by omega)
  rw [getD_at _ _ _ hk] at hh
  unfold hitI at hh hc
  simp only [Bool.and_eq_true, decide_eq_true_eq, List.getElem_take] at hh hc
  omega
theorem hit_find {r : Rl} (h : Rise noIn r.2.1) {p : Po} {x : In} (hx : x ∈ r.2.1) (he : noIn x = p.2.1) : hasI r p = true ∧ instOf r p = x := by
  have hh : hasI r p = true := (hasL_iff noIn r.2.1 p.2.1).2 ⟨x, hx, he⟩
  refine ⟨hh, ?_⟩
  obtain ⟨m1, m2⟩ := find_mem noIn in0 r.2.1 p.2.1 hh
  unfold Rise at h
  rw [List.pairwise_iff_getElem] at h
  obtain ⟨i, hi, ei⟩ := List.getElem_of_mem hx
  obtain ⟨j, hj, ej⟩ := List.getElem_of_mem m1
  show findL noIn in0 r.2.1 p.2.1 = x
  rcases Nat.lt_trichotomy i j with c | c | c
  · have := h i j hi hj c
    rw [ei, ej, m2] at this; omega
  · subst c; rw [← ei, ej]
  · have := h j i hj hi c
    rw [ei, ej, m2] at this; omega
/-- Each instrument was looked at: as it counts. -/
theorem hitK_all {r : Rl} (h : Rise noIn r.2.1) (who cur : Int) (p : Po) : hitK r who cur p r.2.1.length = cntG r who cur p := by
  unfold hitK
  rw [List.take_length, Bool.eq_iff_iff, List.any_eq_true]
  constructor
  · rintro ⟨x, hx, hh⟩
    unfold hitI at hh
    simp only [Bool.and_eq_true, decide_eq_true_eq] at hh
    obtain ⟨g1, g2⟩ := hit_find h hx hh.1
    unfold cntG
    rw [g1, g2]
    simp only [Bool.true_and, Bool.and_eq_true, decide_eq_true_eq]
    exact ⟨hh.2.2, hh.2.1⟩
  · intro hc
    unfold cntG at hc
    simp only [Bool.and_eq_true, decide_eq_true_eq] at hc
    obtain ⟨m1, m2⟩ := find_mem noIn in0 r.2.1 p.2.1 hc.1
    exact ⟨instOf r p, m1, by unfold hitI; simp only [Bool.and_eq_true, decide_eq_true_eq]; exact ⟨m2, hc.2.2, hc.2.1⟩⟩

/-! ### the own ones -/
/-- Behind the positions from n on. -/
def ownN (r : Rl) (who cur : Int) (l : List Po) (n : Nat) : List Po := (l.drop n).reverse.filter (cntG r who cur)
/-- Behind k instruments, for one position more. -/
def ownK (r : Rl) (who cur : Int) (own : List Po) (p : Po) (k : Nat) : List Po := own ++ if hitK r who cur p k = true then [p] else []
theorem ownN_len (r : Rl) (who cur : Int) (l : List Po) : ownN r who cur l l.length = [] := by unfold ownN; rw [List.drop_length]; rfl
theorem ownN_zero (r : Rl) (who cur : Int) (l : List Po) : ownN r who cur l 0 = l.reverse.filter (cntG r who cur) := by unfold ownN; rw [List.drop_zero]
theorem ownK_zero (r : Rl) (who cur : Int) (own : List Po) (p : Po) : ownK r who cur own p 0 = own := by
  unfold ownK; rw [hitK_zero, if_neg (by decide), List.append_nil]
theorem ownK_hit {r : Rl} (h : Rise noIn r.2.1) {who cur : Int} (own : List Po) {p : Po} {k : Nat} (hk : k < r.2.1.length) (hh : hitI who cur p (r.2.1.getD k in0) = true) : ownK r who cur own p k = own ∧ ownK r who cur own p (k + 1) = own ++ [p] := by
  unfold ownK
  rw [hitK_succ hk, hitK_new h hk hh, hh]
  simp
theorem ownK_no {r : Rl} {who cur : Int} (own : List Po) {p : Po} {k : Nat} (hk : k < r.2.1.length) (hh : hitI who cur p (r.2.1.getD k in0) = false) : ownK r who cur own p (k + 1) = ownK r who cur own p k := by
  unfold ownK
  rw [hitK_succ hk, hh, Bool.or_false]
theorem ownN_step {r : Rl} (h : Rise noIn r.2.1) (who cur : Int) {l : List Po} {n : Nat} (hn : n < l.length) (d : Po) : ownN r who cur l n = ownK r who cur (ownN r who cur l (n + 1)) (l.getD n d) r.2.1.length := by
  unfold ownK ownN
  rw [hitK_all h, List.drop_eq_getElem_cons hn, List.reverse_cons, List.filter_append, getD_at _ _ _ hn, List.filter_cons]
  rfl
theorem ownN_le (r : Rl) (who cur : Int) (l : List Po) (n : Nat) : (ownN r who cur l n).length ≤ l.length - n := by
  unfold ownN
  have := List.length_filter_le (cntG r who cur) (l.drop n).reverse
  rw [List.length_reverse, List.length_drop] at this
  exact this
theorem ownK_le (r : Rl) (who cur : Int) (own : List Po) (p : Po) (k : Nat) : (ownK r who cur own p k).length ≤ own.length + 1 := by
  unfold ownK
  rw [List.length_append]
  split <;> simp

/-! ### an add-on that a loop finds -/
def addK (r : Rl) (cur n : Int) : Nat → Int
  | 0 => 0
  | k + 1 => if noIn (r.2.1.getD k in0) = n ∧ (r.2.1.getD k in0).1.2.1 = cur then (r.2.1.getD k in0).1.2.2.2.1 else addK r cur n k
theorem addK_none (r : Rl) (cur n : Int) : ∀ m, (∀ k, k < m → ¬ (noIn (r.2.1.getD k in0) = n ∧ (r.2.1.getD k in0).1.2.1 = cur)) → addK r cur n m = 0
  | 0, _ => rfl
  | m + 1, h => by unfold addK; rw [if_neg (h m (by omega))]; exact addK_none r cur n m fun k hk => h k (by omega)
theorem addK_at {r : Rl} (cur n : Int) {j : Nat} (hj : noIn (r.2.1.getD j in0) = n ∧ (r.2.1.getD j in0).1.2.1 = cur) : ∀ m, j < m → (∀ k, j < k → k < m → ¬ (noIn (r.2.1.getD k in0) = n ∧ (r.2.1.getD k in0).1.2.1 = cur)) → addK r cur n m = (r.2.1.getD j in0).1.2.2.2.1
  | m + 1, h, hk => by
    unfold addK
    by_cases c : j = m
    · subst c; rw [if_pos hj]
    · rw [if_neg (hk m (by omega) (by omega))]
      exact addK_at cur n hj m (by omega) fun k h1 h2 => hk k h1 (by omega)
theorem addK_all {r : Rl} (h : Rise noIn r.2.1) (who cur : Int) (p : Po) (hw : p.1 = who) : addK r cur p.2.1 r.2.1.length = if cntG r who cur p = true then (instOf r p).1.2.2.2.1 else 0 := by
  by_cases hc : cntG r who cur p = true
  · rw [if_pos hc]
    unfold cntG at hc
    simp only [Bool.and_eq_true, decide_eq_true_eq] at hc
    obtain ⟨j, hj, ej, en⟩ := find_at noIn in0 r.2.1 p.2.1 hc.1
    have e2 : r.2.1.getD j in0 = instOf r p := ej
    rw [addK_at cur p.2.1 (j := j) ⟨en, by rw [e2]; exact hc.2.2⟩ _ hj fun k h1 h2 => ?_, e2]
    intro hh
    unfold Rise at h
    rw [List.pairwise_iff_getElem] at h
    have := h j k hj h2 h1
    rw [getD_at _ _ _ h2] at hh
    rw [getD_at _ _ _ hj] at en
    omega
  · rw [if_neg hc]
    refine addK_none r cur p.2.1 _ fun k hk hh => hc ?_
    obtain ⟨g1, g2⟩ := hit_find h (getD_mem r.2.1 in0 k hk) hh.1
    unfold cntG
    rw [g1, g2]
    simp only [Bool.true_and, Bool.and_eq_true, decide_eq_true_eq]
    exact ⟨hw, hh.2⟩
/-- What GridAdds asks: the greatest of the products. -/
theorem most_single {r : Rl} (h : rightR r = true) (who : Int) (k : Ky) {q : Int} (hq : q.natAbs ≤ 1048576) (c : Int) :
    mostV (lossV r who 0 [(k.1, k.2, q, c)]) 6 = mostV (fun j => lossA r who 0 [(k.1, k.2, 1, c)] j * q) 6 ∧ ∀ j, j < 6 → (lossA r who 0 [(k.1, k.2, 1, c)] j * q).natAbs ≤ 1048576 * (1024 * 1073741824) := by
  have h1 := (grid_one h who k (q := 1) (by decide) c).1
  have hq1 := grid_one h who k hq c
  have e : ∀ j, lossA r who 0 [(k.1, k.2, 1, c)] j * q = lossV r who 0 [(k.1, k.2, q, c)] j := fun j => by
    unfold lossA; rw [if_pos h1, ← loss_single r who 0 k c c q j]
  refine ⟨most_congr 6 fun j _ => (e j).symm, fun j hj => ?_⟩
  rw [e]
  have := hq1.2.2.1 j hj
  unfold lossA at this
  rwa [if_pos hq1.1] at this
end Go.Proofs.Ytmlfijapglhjfaa.NumK
