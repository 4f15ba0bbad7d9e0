/- Accounts among a law's arguments; what the listed variables give. -/
import Derived.Test.YtefjdgggafkmoaaDoorAcctF
import Derived.Stop.LaidErr
import Derived.Deep.Slices
namespace Go.Proofs.YtefjdgggafkmoaaDoor.NumK
open Go.RowKit Go.ChangeShapes Go.WideShapes

theorem opens_acct : Opens Tryd.prog 23 (spPair (spInt .i64) (spPair (spInt .i64) (spInt .i64))) :=
  opens_struct Tryd.underlying23 (by kernel_rfl)
    (Fs.cons _ _ 0 rfl (opens_int Tryd.underlying3 (by kernel_rfl)) (Fs.cons _ _ 1 rfl (opens_int Tryd.underlying3 (by kernel_rfl)) (Fs.last _ 2 rfl (opens_int Tryd.underlying3 (by kernel_rfl)))))
theorem acct_of {w : World} {cs : Array Value} {a : Int × Int × Int} (h : (spPair (spInt .i64) (spPair (spInt .i64) (spInt .i64))).rd w cs.toList a) : Value.agg cs = acV a.1 a.2.1 a.2.2 := by
  obtain ⟨c1, c2, e, ⟨rfl, _⟩, c3, c4, rfl, ⟨rfl, _⟩, rfl, _⟩ := h
  unfold acV
  congr 1
  exact Array.toList_inj.1 (by rw [e]; rfl)
theorem opens_int_slice : Opens Tryd.prog 37 (spSlice (spInt .i64)) := opens_slice Tryd.underlying37 (by kernel_rfl) (opens_int Tryd.underlying3 (by kernel_rfl)) (by decide)
theorem ints_of_row1 {w : World} {A : Option Addr} {n : Nat} {l : List Int} (h : Row (spInt .i64) w A n l) : Ints w A n l := by
  refine ⟨h.1, fun hn => ?_⟩
  obtain ⟨b, o, e, hb, hc⟩ := h.2 hn
  refine ⟨b, o, e, hb, fun j hj => ?_⟩
  have hj2 : j < l.length := by rw [h.1]; exact hj
  obtain ⟨cs, ⟨h1, h2⟩, h3⟩ := hc j hj2
  have h4 := h3 0 (by show 0 < 1; omega)
  rw [h1] at h4
  have e1 : o + j * (spInt IntKind.i64).size + 0 = o + j := by show o + j * 1 + 0 = _; omega
  rw [e1] at h4
  rw [h4]
  simp [List.getD, hj2]

/-- The name that the listed errors' dynamic type bears, read off the given row. -/
def errNm : String := match (Rows.laid_strconv_ErrSyntax (H := Unit)) with
  | .iface n _ => n
  | _ => ""
set_option maxRecDepth 100000 in
theorem rowErr (u : TypeId) (h : Tryd.prog.typeName? 3 u = some errNm) : u = 95 :=
  typeName_ptr_named (nm := "errors.errorString") (by kernel_rfl) (by kernel_rfl) (by decide) u (h.trans (congrArg some (by decide)))

theorem gSyntax : Tryd.prog.globalNamed "strconv.ErrSyntax" = some 1 := by kernel_rfl
theorem gRange : Tryd.prog.globalNamed "strconv.ErrRange" = some 2 := by kernel_rfl
theorem gSyntaxT : (Tryd.prog.globals[1]?).map (·.type) = some 54 := by kernel_rfl
theorem gRangeT : (Tryd.prog.globals[2]?).map (·.type) = some 54 := by kernel_rfl
theorem cellsErr : Tryd.prog.cellsOf 97 = 1 := by kernel_rfl
theorem cellsStr : Tryd.prog.cellsOf 9 = 1 := by kernel_rfl

/-- What the listed errors give: at a list whose last two are they. -/
theorem ev_of_laid {W : World} (h : laidMet Tryd.prog [(("strconv.ErrRange" : String), Rows.laid_strconv_ErrRange), (("strconv.ErrSyntax" : String), Rows.laid_strconv_ErrSyntax)] W) : EV W := by
  obtain ⟨a0, s0, hv0, -, -, -⟩ := laid_sentinel (nm := errNm) h gRange gRangeT Tryd.underlying54 rowErr Tryd.underlying95 Tryd.underlying97 rfl rfl Tryd.underlying9 cellsErr cellsStr
  obtain ⟨a1, s1, hv1, -, -, -⟩ := laid_sentinel (nm := errNm) h.tail gSyntax gSyntaxT Tryd.underlying54 rowErr Tryd.underlying95 Tryd.underlying97 rfl rfl Tryd.underlying9 cellsErr cellsStr
  exact ⟨⟨_, _, by have h0 := World.var?_cell gSyntax hv1 0; simpa using h0⟩, _, _, by have h0 := World.var?_cell gRange hv0 0; simpa using h0⟩
end Go.Proofs.YtefjdgggafkmoaaDoor.NumK
