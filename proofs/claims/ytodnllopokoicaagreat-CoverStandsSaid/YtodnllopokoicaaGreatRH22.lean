/- keep's TwinReply. -/
import Derived.Test.YtodnllopokoicaaGreatRH21
import Derived.Test.YtodnllopokoicaaGreatRH5
import Derived.Test.YtodnllopokoicaaGreatRH2
import Derived.Test.YtodnllopokoicaaGreatRH13
import Derived.Deep.Slices
import Derived.Test.YtodnllopokoicaaGreatRH4
import Derived.Deep.RegionHeld3
import Derived.Deep.RegionWith
namespace Go.Proofs.YtodnllopokoicaaGreat.NumK
open Go.RowKit
set_option linter.unusedVariables false

theorem info_d3 : (Tryz.prog.info? 167).map (fun i => (i.zero, i.size, i.bytes)) = some (some (.agg #[.int .i64 0, .int .i64 0, .int .i64 0]), 3, 24) := by kernel_rfl
theorem info_f8 : (Tryz.prog.info? 203).map (fun i => (i.zero, i.size, i.bytes)) = some (some (.agg #[.int .i64 0, .int .i64 0, .int .i64 0, .int .i64 0, .int .i64 0, .int .i64 0, .int .i64 0, .int .i64 0]), 8, 64) := by kernel_rfl
/-- A row of a call's own, a block's own cells aside. -/
theorem own_past {α : Type} {E : En α} {w : World} {base b : Nat} {t : TypeId} {v : Value} {l : List α} (h : OwnE E w base t v l) (hb : b < base) : ∀ g, v.ownBlock = some g → g ≠ b := fun g hg => by
  have := (World.ownsRow.lt h g hg).1
  omega
/-- What a reply's twin is. -/
def TwinRe (q1 q2 q3 : Int) (n m : Nat) (ds : List D3) (fs : List F8) (w : World) (e : Ending) (w' : World) : Prop :=
  ∃ D1 F1 e1 e2, e = .returned (.agg #[.int .i64 q1, .int .i64 q2, .int .i64 q3, .slice D1 n e1, .slice F1 m e2]) ∧ OwnE enD3 w' w.heap.size 167 (.slice D1 n e1) ds ∧ OwnE enF8 w' w.heap.size 203 (.slice F1 m e2) fs ∧ Grew w w'

set_option maxRecDepth 100000 in
set_option maxHeartbeats 8000000 in
theorem twinReply_any (q1 q2 q3 : Int) (D F : Option Addr) (n c m d : Nat) (ds : List D3) (fs : List F8) (w : World) (h1 : RowE enD3 w D n ds) (h2 : RowE enF8 w F m fs) (hD : D = none → c = 0) (hF : F = none → d = 0) (hn : n * 24 ≤ 140737488355328) (hm : m * 64 ≤ 140737488355328) :
    Calls Tryz.prog 20 #[.agg #[.int .i64 q1, .int .i64 q2, .int .i64 q3, .slice D n c, .slice F m d]] w (TwinRe q1 q2 q3 n m ds fs w) := by
  have HD := Lib.hid h1
  have HF := Lib.hid h2
  have HDL := Lib.hid h1.len
  have HFL := Lib.hid h2.len
  clear h1 h2
  have HX0 : Hid (OwnC (((w.alloc (.cells #[.int .i64 q1, .int .i64 q2, .int .i64 q3, .slice D n c, .slice F m d] 63)).alloc (.cells #[.int .i64 0, .int .i64 0, .int .i64 0, .slice none 0 0, .slice none 0 0] 63)).alloc (.cells #[.int .i64 q1, .int .i64 q2, .int .i64 q3, .slice none 0 0, .slice none 0 0] 63)) w.heap.size [.int .i64 q1, .int .i64 q2, .int .i64 q3, .slice D n c, .slice F m d]) := ((OwnC.new w [.int .i64 q1, .int .i64 q2, .int .i64 q3, .slice D n c, .slice F m d] _ _ rfl).keep (grew_alloc _ _ _)).keep (grew_alloc _ _ _)
  have HZ0 : Hid (OwnC (((w.alloc (.cells #[.int .i64 q1, .int .i64 q2, .int .i64 q3, .slice D n c, .slice F m d] 63)).alloc (.cells #[.int .i64 0, .int .i64 0, .int .i64 0, .slice none 0 0, .slice none 0 0] 63)).alloc (.cells #[.int .i64 q1, .int .i64 q2, .int .i64 q3, .slice none 0 0, .slice none 0 0] 63)) (w.heap.size + 1) [.int .i64 0, .int .i64 0, .int .i64 0, .slice none 0 0, .slice none 0 0]) := (OwnC.new _ [.int .i64 0, .int .i64 0, .int .i64 0, .slice none 0 0, .slice none 0 0] _ _ (by simp)).keep (grew_alloc _ _ _)
  have HO0 : Hid (OwnC (((w.alloc (.cells #[.int .i64 q1, .int .i64 q2, .int .i64 q3, .slice D n c, .slice F m d] 63)).alloc (.cells #[.int .i64 0, .int .i64 0, .int .i64 0, .slice none 0 0, .slice none 0 0] 63)).alloc (.cells #[.int .i64 q1, .int .i64 q2, .int .i64 q3, .slice none 0 0, .slice none 0 0] 63)) (w.heap.size + 1 + 1) [.int .i64 q1, .int .i64 q2, .int .i64 q3, .slice none 0 0, .slice none 0 0]) := OwnC.new _ [.int .i64 q1, .int .i64 q2, .int .i64 q3, .slice none 0 0, .slice none 0 0] _ _ (by simp)
  have HG0 : Hid (Grew w (((w.alloc (.cells #[.int .i64 q1, .int .i64 q2, .int .i64 q3, .slice D n c, .slice F m d] 63)).alloc (.cells #[.int .i64 0, .int .i64 0, .int .i64 0, .slice none 0 0, .slice none 0 0] 63)).alloc (.cells #[.int .i64 q1, .int .i64 q2, .int .i64 q3, .slice none 0 0, .slice none 0 0] 63))) := grew_trans (grew_trans (grew_alloc _ _ _) (grew_alloc _ _ _)) (grew_alloc _ _ _)
  go_enter Tryz.func20, Tryz.ntmps20
  go_upto_region 2 with (fail)
  generalize (((w.alloc (.cells #[.int .i64 q1, .int .i64 q2, .int .i64 q3, .slice D n c, .slice F m d] 63)).alloc (.cells #[.int .i64 0, .int .i64 0, .int .i64 0, .slice none 0 0, .slice none 0 0] 63)).alloc (.cells #[.int .i64 q1, .int .i64 q2, .int .i64 q3, .slice none 0 0, .slice none 0 0] 63)) = w1 at *
  have hN1 : w.heap.size < w.heap.size + 1 := by omega
  have hN2 : w.heap.size + 1 < w.heap.size + 1 + 1 := by omega
  have hlt := HO0.out.lt
  generalize hN2' : w.heap.size + 1 + 1 = N2 at *
  generalize hN1' : w.heap.size + 1 = N1 at *
  have hw1 : w.heap.size ≤ N1 := by omega
  have hw2 : w.heap.size ≤ N2 := by omega
  have x3 := HX0.out.at 3 (.slice D n c) rfl
  have o3 := HO0.out.at 3 (.slice none 0 0) rfl
  go_upto_region 3 with (at_builtin; refine (wpList_append_E rfl _ _ 60 167 (.agg #[.int .i64 0, .int .i64 0, .int .i64 0]) 24 rfl Tryz.underlying60 info_d3 rfl w1.heap.size _ [] rfl (OwnE.nil enD3 _ _ _) D n c ds rfl hD (HD.out.keep HG0.out) (by simp; unfold maxLen; omega) (by simp; omega) (Nat.le_refl _) ?_); intro v' w2 ho hb; rw [List.nil_append] at ho; obtain ⟨D1, e1, rfl, -⟩ := ho.form; rw [HDL.out] at ho; have HDO := Lib.hid ho; have HGb := Lib.hid hb; have HX2 := Lib.hid (HX0.out.keep hb); have HZ2 := Lib.hid (HZ0.out.keep hb); have HO2 := Lib.hid (HO0.out.keep hb); have HG2 := Lib.hid (grew_trans HG0.out hb); have o3' := HO2.out.at 3 (.slice none 0 0) rfl; have f3' := HO2.out.fr 3 (by simp); clear ho hb)
  rw [HDL.out]
  have HX3 := Lib.hid (HX2.out.other ⟨N2, 3, none⟩ (.slice D1 n e1) (by show N2 ≠ _; omega))
  have HZ3 := Lib.hid (HZ2.out.other ⟨N2, 3, none⟩ (.slice D1 n e1) (by show N2 ≠ _; omega))
  have HO3 : Hid (OwnC (w2.setCell ⟨N2, 3, none⟩ (.slice D1 n e1)) N2 [.int .i64 q1, .int .i64 q2, .int .i64 q3, .slice D1 n e1, .slice none 0 0]) := HO2.out.set 3 (.slice D1 n e1) (by simp)
  have HG3 := Lib.hid (grew_set HG2.out (p := ⟨N2, 3, none⟩) (.slice D1 n e1) hw2)
  have HD3 := Lib.hid (HDO.out.setO N2 3 (.slice D1 n e1) (own_past HDO.out hlt))
  have HDB : Hid (w.heap.size ≤ w1.heap.size) := HG0.out.size
  clear HX2 HZ2 HO2 HG2 HDO HGb o3' f3' x3 o3 HX0 HZ0 HO0 HG0
  generalize w2.setCell ⟨N2, 3, none⟩ (.slice D1 n e1) = w3 at *
  have hlt3 := HO3.out.lt
  have x4 := HX3.out.at 4 (.slice F m d) rfl
  have o4 := HO3.out.at 4 (.slice none 0 0) rfl
  go_upto_region 4 with (at_builtin; refine (wpList_append_E rfl _ _ 61 203 (.agg #[.int .i64 0, .int .i64 0, .int .i64 0, .int .i64 0, .int .i64 0, .int .i64 0, .int .i64 0, .int .i64 0]) 64 rfl Tryz.underlying61 info_f8 rfl w3.heap.size _ [] rfl (OwnE.nil enF8 _ _ _) F m d fs rfl hF (HF.out.keep HG3.out) (by simp; unfold maxLen; omega) (by simp; omega) (Nat.le_refl _) ?_); intro v' w4 ho hb; rw [List.nil_append] at ho; obtain ⟨F1, e2, rfl, -⟩ := ho.form; rw [HFL.out] at ho; have HFO := Lib.hid ho; have HD4 := Lib.hid (HD3.out.keep hb); have HZ4 := Lib.hid (HZ3.out.keep hb); have HO4 := Lib.hid (HO3.out.keep hb); have HG4 := Lib.hid (grew_trans HG3.out hb); have o4' := HO4.out.at 4 (.slice none 0 0) rfl; have f4' := HO4.out.fr 4 (by simp); clear ho hb)
  rw [HFL.out]
  have HZ5 := Lib.hid (HZ4.out.other ⟨N2, 4, none⟩ (.slice F1 m e2) (by show N2 ≠ _; omega))
  have HO5 : Hid (OwnC (w4.setCell ⟨N2, 4, none⟩ (.slice F1 m e2)) N2 [.int .i64 q1, .int .i64 q2, .int .i64 q3, .slice D1 n e1, .slice F1 m e2]) := HO4.out.set 4 (.slice F1 m e2) (by simp)
  have HG5 := Lib.hid (grew_set HG4.out (p := ⟨N2, 4, none⟩) (.slice F1 m e2) hw2)
  have HD5 := Lib.hid (HD4.out.setO N2 4 (.slice F1 m e2) (own_past HD4.out hlt))
  have HF5 := Lib.hid (HFO.out.setO N2 4 (.slice F1 m e2) (own_past HFO.out hlt3))
  have HFB : Hid (w.heap.size ≤ w3.heap.size) := HG3.out.size
  clear HZ4 HO4 HG4 HD4 HFO o4' f4' x4 o4 HX3 HZ3 HO3 HG3 HD3
  generalize w4.setCell ⟨N2, 4, none⟩ (.slice F1 m e2) = w5 at *
  have o0 := HO5.out.at 0 (.int .i64 q1) rfl; have o1 := HO5.out.at 1 (.int .i64 q2) rfl; have o2 := HO5.out.at 2 (.int .i64 q3) rfl; have o3 := HO5.out.at 3 (.slice D1 n e1) rfl; have o4 := HO5.out.at 4 (.slice F1 m e2) rfl
  have z0 := HZ5.out.at 0 (.int .i64 0) rfl; have z1 := HZ5.out.at 1 (.int .i64 0) rfl; have z2 := HZ5.out.at 2 (.int .i64 0) rfl; have z3 := HZ5.out.at 3 (.slice none 0 0) rfl; have z4 := HZ5.out.at 4 (.slice none 0 0) rfl
  have f0 := HZ5.out.fr 0 (by simp); have f1 := HZ5.out.fr 1 (by simp); have f2 := HZ5.out.fr 2 (by simp); have f3 := HZ5.out.fr 3 (by simp); have f4 := HZ5.out.fr 4 (by simp)
  go_wp2
  have HP := HZ5.out.all [.int .i64 q1, .int .i64 q2, .int .i64 q3, .slice D1 n e1, .slice F1 m e2] rfl
  have HGP := grew_put N1 hw1 [.int .i64 q1, .int .i64 q2, .int .i64 q3, .slice D1 n e1, .slice F1 m e2] 0 _ HG5.out
  have HDP := OwnE.putN (own_past HD5.out (b := N1) (by omega)) [.int .i64 q1, .int .i64 q2, .int .i64 q3, .slice D1 n e1, .slice F1 m e2] 0 _ HD5.out
  have HFP := OwnE.putN (own_past HF5.out (b := N1) (by omega)) [.int .i64 q1, .int .i64 q2, .int .i64 q3, .slice D1 n e1, .slice F1 m e2] 0 _ HF5.out
  change bodyPost _ _ _ _ _ (putC w5 N1 0 [.int .i64 q1, .int .i64 q2, .int .i64 q3, .slice D1 n e1, .slice F1 m e2])
  generalize putC w5 N1 0 [.int .i64 q1, .int .i64 q2, .int .i64 q3, .slice D1 n e1, .slice F1 m e2] = w9 at *
  have y0 : w9.cell? ⟨N1, 0, none⟩ = _ := HP.at 0 _ rfl; have y1 : w9.cell? ⟨N1, 1, none⟩ = _ := HP.at 1 _ rfl; have y2 : w9.cell? ⟨N1, 2, none⟩ = _ := HP.at 2 _ rfl; have y3 : w9.cell? ⟨N1, 3, none⟩ = _ := HP.at 3 _ rfl; have y4 : w9.cell? ⟨N1, 4, none⟩ = _ := HP.at 4 _ rfl
  refine bodyPost_ret (v := .agg #[.int .i64 q1, .int .i64 q2, .int .i64 q3, .slice D1 n e1, .slice F1 m e2]) (by simp [results, Tryz.results20, go_sem, y0, y1, y2, y3, y4]) rfl ?_
  exact ⟨D1, F1, e1, e2, rfl, HDP.mono HDB.out, HFP.mono HFB.out, HGP⟩
end Go.Proofs.YtodnllopokoicaaGreat.NumK
namespace Go.Proofs.YtodnllopokoicaaGreat.NumK
open Go.RowKit Go.ChangeShapes Go.WideShapes
set_option linter.unusedVariables false

/-! ### rolls among the arguments -/
abbrev spI : Sp Int := spInt .i64
abbrev spMb : Sp Mb := spPair spI (spPair spI spI)
abbrev spAs : Sp As := spPair spI (spPair spI (spPair spI spI))
abbrev spSh : Sp (List Int) := spArr 6 spI
abbrev spInA : Sp (Int × Int × Int × Int × Int × Int × List Int) := spPair spI (spPair spI (spPair spI (spPair spI (spPair spI (spPair spI spSh)))))
def toIn (x : Int × Int × Int × Int × Int × Int × List Int) : In :=
  ((x.1, x.2.1, x.2.2.1, x.2.2.2.1, x.2.2.2.2.1, x.2.2.2.2.2.1), (x.2.2.2.2.2.2.getD 0 0, x.2.2.2.2.2.2.getD 1 0, x.2.2.2.2.2.2.getD 2 0, x.2.2.2.2.2.2.getD 3 0, x.2.2.2.2.2.2.getD 4 0, x.2.2.2.2.2.2.getD 5 0))
theorem opens_i : Opens Tryz.prog 3 spI := opens_int Tryz.underlying3 (by kernel_rfl)
theorem opens_member : Opens Tryz.prog 123 spMb :=
  opens_struct Tryz.underlying123 (by kernel_rfl) (Fs.cons _ _ 0 rfl opens_i (Fs.cons _ _ 1 rfl opens_i (Fs.last _ 2 rfl opens_i)))
theorem opens_asset : Opens Tryz.prog 76 spAs :=
  opens_struct Tryz.underlying76 (by kernel_rfl) (Fs.cons _ _ 0 rfl opens_i (Fs.cons _ _ 1 rfl opens_i (Fs.cons _ _ 2 rfl opens_i (Fs.last _ 3 rfl opens_i))))
theorem opens_shifts : Opens Tryz.prog 96 spSh := opens_arr Tryz.underlying96 (by kernel_rfl) opens_i
theorem opens_instA : Opens Tryz.prog 105 spInA :=
  opens_struct Tryz.underlying105 (by kernel_rfl) (Fs.cons _ _ 0 rfl opens_i (Fs.cons _ _ 1 rfl opens_i (Fs.cons _ _ 2 rfl opens_i (Fs.cons _ _ 3 rfl opens_i (Fs.cons _ _ 4 rfl opens_i (Fs.cons _ _ 5 rfl opens_i (Fs.last _ 6 rfl opens_shifts)))))))

theorem sh_cells {w : World} {cs : List Value} {l : List Int} (h : spSh.rd w cs l) : cs = [.int .i64 (l.getD 0 0), .int .i64 (l.getD 1 0), .int .i64 (l.getD 2 0), .int .i64 (l.getD 3 0), .int .i64 (l.getD 4 0), .int .i64 (l.getD 5 0)] := by
  obtain ⟨h1, h2, h3⟩ := h
  have h2 : cs.length = 6 := h2
  have e : ∀ j (hj : j < 6), cs[j]'(by omega) = .int .i64 (l.getD j 0) := by
    intro j hj
    have h4 : ((cs.drop (j * 1)).take 1) = [.int .i64 l[j]] := (h3 j (by omega)).1
    rw [Nat.mul_one] at h4
    have h5 : ((cs.drop j).take 1)[0]? = some (.int .i64 l[j]) := by rw [h4]; rfl
    rw [List.getElem?_take, if_pos (by omega), List.getElem?_drop, Nat.add_zero, List.getElem?_eq_getElem (by omega)] at h5
    rw [Option.some.inj h5]
    simp [List.getD, show j < l.length by omega]
  obtain ⟨a, b, c, d, x, y, rfl⟩ : ∃ a b c d x y, cs = [a, b, c, d, x, y] := by
    match cs, h2 with
    | [a, b, c, d, x, y], _ => exact ⟨a, b, c, d, x, y, rfl⟩
  · have e0 : a = _ := e 0 (by omega); have e1 : b = _ := e 1 (by omega); have e2 : c = _ := e 2 (by omega); have e3 : d = _ := e 3 (by omega); have e4 : x = _ := e 4 (by omega); have e5 : y = _ := e 5 (by omega)
    rw [e0, e1, e2, e3, e4, e5]
theorem in_cells {w : World} {cs : List Value} {a} (h : spInA.rd w cs a) : cs = enIn.cs (toIn a) := by
  obtain ⟨c1, d1, rfl, ⟨rfl, _⟩, c2, d2, rfl, ⟨rfl, _⟩, c3, d3, rfl, ⟨rfl, _⟩, c4, d4, rfl, ⟨rfl, _⟩, c5, d5, rfl, ⟨rfl, _⟩, c6, d6, rfl, ⟨rfl, _⟩, hs⟩ := h
  have := sh_cells hs
  subst this
  rfl
def spIn : Sp In := spMap toIn spInA
theorem opens_inst : Opens Tryz.prog 105 spIn := opens_map toIn opens_instA
theorem in_rd {w : World} {cs : List Value} {a : In} (h : spIn.rd w cs a) : cs = enIn.cs a := by
  obtain ⟨x, hx, rfl⟩ := h
  exact in_cells hx
theorem mb_rd {w : World} {cs : List Value} {a : Mb} (h : spMb.rd w cs a) : cs = enMb.cs a := by
  obtain ⟨c1, d1, rfl, ⟨rfl, _⟩, c2, d2, rfl, ⟨rfl, _⟩, rfl, _⟩ := h
  rfl
theorem as_rd {w : World} {cs : List Value} {a : As} (h : spAs.rd w cs a) : cs = enAs.cs a := by
  obtain ⟨c1, d1, rfl, ⟨rfl, _⟩, c2, d2, rfl, ⟨rfl, _⟩, c3, d3, rfl, ⟨rfl, _⟩, rfl, _⟩ := h
  rfl
theorem rowE_of {α : Type} {A : Sp α} {E : En α} (hs : E.size = A.size) (hf : ∀ w cs a, A.rd w cs a → cs = E.cs a) {w : World} {ad : Option Addr} {n : Nat} {l : List α} (h : Row A w ad n l) : RowE E w ad n l := by
  have := Row.imp (A := A) (B := E.sp) (fun x => x) hs (fun cs a hr => hf w cs a hr) h
  rwa [List.map_id'] at this
abbrev spRl : Sp Rl := spPair (spSlice spMb) (spPair (spSlice spIn) (spSlice spAs))
theorem opens_members : Opens Tryz.prog 24 (spSlice spMb) := opens_slice Tryz.underlying24 (by kernel_rfl) opens_member (by decide)
theorem opens_insts : Opens Tryz.prog 25 (spSlice spIn) := opens_slice Tryz.underlying25 (by kernel_rfl) opens_inst (by decide)
theorem opens_assets : Opens Tryz.prog 26 (spSlice spAs) := opens_slice Tryz.underlying26 (by kernel_rfl) opens_asset (by decide)
theorem opens_roll : Opens Tryz.prog 28 spRl :=
  opens_struct Tryz.underlying28 (by kernel_rfl) (Fs.cons _ _ 0 rfl opens_members (Fs.cons _ _ 1 rfl opens_insts (Fs.last _ 2 rfl opens_assets)))
/-! ### Heavy -/
def heavyR (n1 n2 n3 : Nat) : Bool := decide (n1 > 100) || (decide (n2 > 100) || decide (n3 > 100))
set_option maxRecDepth 100000 in
theorem heavy11_any (A1 A2 A3 : Option Addr) (n1 n2 n3 c1 c2 c3 : Nat) (w : World) :
    Calls Tryz.prog 15 #[rlV A1 A2 A3 n1 n2 n3 c1 c2 c3] w fun e w' => e = .returned (.bool (heavyR n1 n2 n3)) ∧ Grew w w' := by
  have HH : Hid (heavyR n1 n2 n3 = (decide (n1 > 100) || (decide (n2 > 100) || decide (n3 > 100)))) := rfl
  generalize heavyR n1 n2 n3 = H at *
  dsimp only [rlV]
  by_cases h1 : n1 > 100
  · have HF : Hid (H = true) := by show _ = _; rw [HH.out, decide_eq_true h1]; rfl
    have j1 : (n1 : Int) > 100 := by omega
    go_enter Tryz.func15, Tryz.ntmps15
    go_wp2
    go_ret
    exact ⟨ret_b HF.out.symm, grew_alloc _ _ _⟩
  · have j1 : ¬ (n1 : Int) > 100 := by omega
    by_cases h2 : n2 > 100
    · have HF : Hid (H = true) := by show _ = _; rw [HH.out, decide_eq_true h2]; simp
      have j2 : (n2 : Int) > 100 := by omega
      go_enter Tryz.func15, Tryz.ntmps15
      go_wp2
      go_ret
      exact ⟨ret_b HF.out.symm, grew_alloc _ _ _⟩
    · have j2 : ¬ (n2 : Int) > 100 := by omega
      by_cases h3 : n3 > 100
      · have HF : Hid (H = true) := by show _ = _; rw [HH.out, decide_eq_true h3]; simp
        have j3 : (n3 : Int) > 100 := by omega
        go_enter Tryz.func15, Tryz.ntmps15
        go_wp2
        go_ret
        exact ⟨ret_b HF.out.symm, grew_alloc _ _ _⟩
      · have HF : Hid (H = false) := by show _ = _; rw [HH.out, decide_eq_false h1, decide_eq_false h2, decide_eq_false h3]; rfl
        have j3 : ¬ (n3 : Int) > 100 := by omega
        go_enter Tryz.func15, Tryz.ntmps15
        go_wp2
        go_ret
        exact ⟨ret_b HF.out.symm, grew_alloc _ _ _⟩
end Go.Proofs.YtodnllopokoicaaGreat.NumK
namespace Go.Proofs.YtodnllopokoicaaGreat.NumK
open Go.RowKit

/-! ### Int: as money -/



set_option maxHeartbeats 1000000 in
theorem refInt_money (x : Int) (w : World) (h : isMoney x = true) :
    Calls Tryz.prog 52 #[(.agg #[.int .i64 (hi64 (x)), .int .u64 (lo64 (x))])] w fun e w' => e = .returned (.tuple #[.int .i64 (intV x), .bool (isMoney x)]) ∧ Grew w w' := by
  have hx := (isMoney_iff x).1 h
  have b1 := lo_bounds x
  have L : wrap64 (lo64 x) = x := by unfold wrap64 lo64; omega
  have C1 := fun w => of_any x w (by omega)
  have C2 := fun w => refRight_any x w
  rw [h] at C2
  have E1 := Lib.hid (intV_in h)
  have E2 := Lib.hid h
  clear h hx b1
  generalize hi64 x = hh at *
  generalize lo64 x = l at *
  go_enter Tryz.func52, Tryz.ntmps52
  go_wp2
  go_region_held3 (fun w' => w'.cell? ⟨w.heap.size, 0, none⟩ = some (.int .i64 hh) ∧ w'.cell? ⟨w.heap.size, 1, none⟩ = some (.int .u64 l) ∧ w.heap.size < w'.heap.size ∧ Grew w w')
    (first
      | (exact keep2 (by assumption) (by first | assumption | simp) (by first | assumption | simp) (by first | assumption | simp) (by first | assumption | exact grew_drew (grew_alloc _ _ _)))
      | (refine ⟨by simp, by simp, by simp, grew_drew (grew_alloc _ _ _)⟩))
    (first
      | (go_at_call 48; refine (C1 _).mono ?_; rintro e w1 ⟨rfl, hg1⟩)
      | (go_at_call 74; refine (C2 _).mono ?_; rintro e w2 ⟨rfl, rfl⟩))
  rename_i hS
  go_wp2
  go_ret2
  exact ⟨ret_vb E1.out.symm E2.out.symm, hS.2.2.2⟩

set_option maxHeartbeats 1000000 in
theorem refInt_far (x : Int) (w : World) (h : isMoney x = false) (hf : hi64 (wrap64 (lo64 x)) ≠ hi64 x) :
    Calls Tryz.prog 52 #[(.agg #[.int .i64 (hi64 (x)), .int .u64 (lo64 (x))])] w fun e w' => e = .returned (.tuple #[.int .i64 (intV x), .bool (isMoney x)]) ∧ Grew w w' := by
  have b1 := lo_bounds x
  have bn : -9223372036854775808 ≤ wrap64 (lo64 x) ∧ wrap64 (lo64 x) ≤ 9223372036854775807 := by unfold wrap64; omega
  have hl : lo64 (wrap64 (lo64 x)) = lo64 x := by unfold wrap64 lo64; omega
  have C1 := fun w => of_any (wrap64 (lo64 x)) w bn
  have E1 := Lib.hid (intV_out h)
  have E2 := Lib.hid h
  have d1 : (hi64 (wrap64 (lo64 x)) == hi64 x) = false := by simpa using hf
  have d2 : (hi64 (wrap64 (lo64 x)) != hi64 x) = true := by simpa using hf
  have d3 : decide (hi64 (wrap64 (lo64 x)) = hi64 x) = false := by simpa using hf
  rw [hl] at C1
  clear h b1 hl hf
  generalize hi64 (wrap64 (lo64 x)) = hn at *
  generalize hi64 x = hh at *
  generalize lo64 x = l at *
  go_enter Tryz.func52, Tryz.ntmps52
  go_wp2
  first
  | (go_region_with (first
      | (go_at_call 48; refine (C1 _).mono ?_; rintro e w1 ⟨rfl, hg1⟩; have kc := keep2 (v0 := .int .i64 hh) (v1 := .int .u64 l) hg1 (by simp) (by simp) (by simp) (grew_drew (grew_alloc _ _ _)); obtain ⟨k1, k2, k3, k4⟩ := kc)))
  | fail
  all_goals
    go_wp2
    go_ret2
    exact ⟨ret_vb E1.out.symm E2.out.symm, by assumption⟩

set_option maxHeartbeats 1000000 in
theorem refInt_near (x : Int) (w : World) (h : isMoney x = false) (L : wrap64 (lo64 x) = x) :
    Calls Tryz.prog 52 #[(.agg #[.int .i64 (hi64 (x)), .int .u64 (lo64 (x))])] w fun e w' => e = .returned (.tuple #[.int .i64 (intV x), .bool (isMoney x)]) ∧ Grew w w' := by
  have b1 := lo_bounds x
  have bn : -9223372036854775808 ≤ wrap64 (lo64 x) ∧ wrap64 (lo64 x) ≤ 9223372036854775807 := by unfold wrap64; omega
  rw [L] at bn
  have C1 := fun w => of_any x w bn
  have C2 := fun w => refRight_any x w
  rw [h] at C2
  have E1 := Lib.hid (intV_out h)
  have E2 := Lib.hid h
  clear h b1
  generalize hi64 x = hh at *
  generalize lo64 x = l at *
  go_enter Tryz.func52, Tryz.ntmps52
  go_wp2
  go_region_held3 (fun w' => w'.cell? ⟨w.heap.size, 0, none⟩ = some (.int .i64 hh) ∧ w'.cell? ⟨w.heap.size, 1, none⟩ = some (.int .u64 l) ∧ w.heap.size < w'.heap.size ∧ Grew w w')
    (first
      | (exact keep2 (by assumption) (by first | assumption | simp) (by first | assumption | simp) (by first | assumption | simp) (by first | assumption | exact grew_drew (grew_alloc _ _ _)))
      | (refine ⟨by simp, by simp, by simp, grew_drew (grew_alloc _ _ _)⟩))
    (first
      | (go_at_call 48; refine (C1 _).mono ?_; rintro e w1 ⟨rfl, hg1⟩)
      | (go_at_call 74; refine (C2 _).mono ?_; rintro e w2 ⟨rfl, rfl⟩))
  rename_i hS
  go_wp2
  go_ret2
  exact ⟨ret_vb E1.out.symm E2.out.symm, hS.2.2.2⟩

theorem refInt_any (x : Int) (w : World) :
    Calls Tryz.prog 52 #[(.agg #[.int .i64 (hi64 (x)), .int .u64 (lo64 (x))])] w fun e w' => e = .returned (.tuple #[.int .i64 (intV x), .bool (isMoney x)]) ∧ Grew w w' := by
  by_cases h : isMoney x = true
  · exact refInt_money x w h
  · simp only [Bool.not_eq_true] at h
    by_cases hf : hi64 (wrap64 (lo64 x)) = hi64 x
    · refine refInt_near x w h ?_
      have b1 := lo_bounds x
      have e1 := w_eq x
      have e2 := w_eq (wrap64 (lo64 x))
      have hl : lo64 (wrap64 (lo64 x)) = lo64 x := by unfold wrap64 lo64; omega
      rw [hf, hl] at e2
      omega
    · exact refInt_far x w h hf
end Go.Proofs.YtodnllopokoicaaGreat.NumK
