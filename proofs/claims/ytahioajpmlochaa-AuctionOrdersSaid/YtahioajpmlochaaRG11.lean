/- Package auction: Legs. -/
import Derived.Test.YtahioajpmlochaaRG2
import Derived.Test.YtahioajpmlochaaRG7
import Derived.Test.YtahioajpmlochaaRG6
import Derived.Test.YtahioajpmlochaaRG10
import Derived.Test.YtahioajpmlochaaRG3
import Derived.Deep.RegionHeld3
import Derived.Deep.RegionWith
import Derived.Test.YtahioajpmlochaaRG8
namespace Go.Proofs.Ytahioajpmlochaa.NumK
open Go.RowKit
set_option linter.unusedVariables false

def okFi (f : Fi) : Bool := wi f.2.1 0 1099511627776 && wi f.2.2 0 1073741824
theorem okFi_iff (f : Fi) : okFi f = true ↔ (0 ≤ f.2.1 ∧ f.2.1 ≤ 1099511627776) ∧ 0 ≤ f.2.2 ∧ f.2.2 ≤ 1073741824 := by unfold okFi; rw [Bool.and_eq_true, wi_iff, wi_iff]
def okMu (f : Fi) : Bool := isMoney (f.2.1 * f.2.2)
def sg (long : Bool) : Int := if long then 1 else -1
def legsE (fs : List Fi) : Int := if fs.all okFi then (if fs.all okMu then 0 else 1) else 3
def legsL (k : Ky) (long : Bool) (fs : List Fi) : List Po := if legsE fs = 0 then legsF k (sg long) fs else []
theorem legsE_3 {fs : List Fi} {j : Nat} (hj : j < fs.length) (h : okFi (fs.getD j fi0) = false) : legsE fs = 3 := by
  unfold legsE
  rw [if_neg]
  intro hc
  have := List.all_eq_true.1 hc _ (getD_mem fs fi0 j hj)
  rw [h] at this; cases this
theorem legsE_1 {fs : List Fi} {j : Nat} (hj : j < fs.length) (ha : ∀ i, i < fs.length → okFi (fs.getD i fi0) = true) (h : okMu (fs.getD j fi0) = false) : legsE fs = 1 := by
  unfold legsE
  have h1 : fs.all okFi = true := by
    rw [List.all_eq_true]; intro x hx
    obtain ⟨i, hi, rfl⟩ := List.getElem_of_mem hx
    have := ha i hi
    rwa [getD_at fs fi0 i hi] at this
  rw [if_pos h1, if_neg]
  intro hc
  have := List.all_eq_true.1 hc _ (getD_mem fs fi0 j hj)
  rw [h] at this; cases this
theorem legsE_0 {fs : List Fi} (ha : ∀ i, i < fs.length → okFi (fs.getD i fi0) = true) (hm : ∀ i, i < fs.length → okMu (fs.getD i fi0) = true) : legsE fs = 0 := by
  unfold legsE
  rw [if_pos, if_pos]
  · rw [List.all_eq_true]; intro x hx
    obtain ⟨i, hi, rfl⟩ := List.getElem_of_mem hx
    have := hm i hi
    rwa [getD_at fs fi0 i hi] at this
  · rw [List.all_eq_true]; intro x hx
    obtain ⟨i, hi, rfl⟩ := List.getElem_of_mem hx
    have := ha i hi
    rwa [getD_at fs fi0 i hi] at this
theorem legsL_no {k : Ky} {long : Bool} {fs : List Fi} (h : legsE fs ≠ 0) : legsL k long fs = [] := by unfold legsL; rw [if_neg h]
theorem legsF_take (k : Ky) (s : Int) (fs : List Fi) (j : Nat) (hj : j < fs.length) : legsF k s (fs.take (j + 1)) = legsF k s (fs.take j) ++ [((fs.getD j fi0).1, k.2, s * (fs.getD j fi0).2.1, s * ((fs.getD j fi0).2.1 * (fs.getD j fi0).2.2)), (k.1, k.2, -(s * (fs.getD j fi0).2.1), -(s * ((fs.getD j fi0).2.1 * (fs.getD j fi0).2.2)))] := by
  unfold legsF
  rw [List.take_succ_eq_append_getElem hj, List.flatMap_append, getD_at fs fi0 j hj]
  simp
theorem legsF_len (k : Ky) (s : Int) (fs : List Fi) : (legsF k s fs).length = 2 * fs.length := by
  induction fs with
  | nil => rfl
  | cons f fs ih => rw [legsF_cons]; simp only [List.length_cons, ih]; omega
theorem mul_of {f : Fi} (h : okFi f = true) : (okMu f = true → mulV f.2.1 f.2.2 = f.2.1 * f.2.2 ∧ mulE f.2.1 f.2.2 = 0) ∧ (okMu f = false → mulE f.2.1 f.2.2 = 1) := by
  have h1 := (okFi_iff f).1 h
  have h2 : [f.2.1, f.2.2].all isMoney = true := by
    simp only [List.all_cons, List.all_nil, Bool.and_true, Bool.and_eq_true]
    exact ⟨(isMoney_iff _).2 (by omega), (isMoney_iff _).2 (by omega)⟩
  rw [mulV_in h2, mulE_in h2]
  unfold okMu capV capE
  constructor
  · intro h3; rw [h3]; exact ⟨rfl, rfl⟩
  · intro h3; rw [h3]; rfl
theorem rowE_lits {α : Type} (E : En α) (l : List α) (w : World) (t : TypeId) (cs : Array Value) (hc : cs = (l.flatMap E.cs).toArray) (N n : Nat) (hN : w.heap.size = N) (hn : l.length = n) : RowE E (w.alloc (.cells cs t)) (some ⟨N, 0, none⟩) n l := by
  subst hN hn hc
  refine ⟨rfl, fun h => ⟨w.heap.size, 0, rfl, by simp, fun j hj => ⟨E.cs l[j], rfl, fun i hi => ?_⟩⟩⟩
  have hi : i < E.size := hi
  rw [World.cell?_alloc_at _ _ _ _ (by simp), Nat.zero_add]
  have := E.flat_at l j hj i hi
  show (l.flatMap E.cs).toArray[j * E.size + i]? = (E.cs l[j])[i]?
  rw [List.getElem?_toArray]; exact this
def FlPost (k : Ky) (long : Bool) (fs : List Fi) (w : World) (e : Ending) (w' : World) : Prop :=
  ∃ v, e = .returned (.tuple #[v, .int .i64 (legsE fs)]) ∧ OwnE enPo w' w.heap.size 49 v (legsL k long fs) ∧ Grew w w'
theorem FlPost.no {k : Ky} {long : Bool} {fs : List Fi} {r : Int} {w w' : World} (h : legsE fs = r) (hr : r ≠ 0) (g : Grew w w') : FlPost k long fs w (.returned (.tuple #[.slice none 0 0, .int .i64 r])) w' :=
  ⟨_, by rw [h], by rw [legsL_no (by rw [h]; exact hr)]; exact OwnE.nil _ _ _ _, g⟩
theorem FlPost.yes {k : Ky} {long : Bool} {fs : List Fi} {v : Value} {w w' : World} (h : legsE fs = 0) (ho : OwnE enPo w' w.heap.size 49 v (legsF k (sg long) fs)) (g : Grew w w') : FlPost k long fs w (.returned (.tuple #[v, .int .i64 0])) w' :=
  ⟨v, by rw [h], by unfold legsL; rw [if_pos h]; exact ho, g⟩

set_option maxRecDepth 100000 in
set_option maxHeartbeats 8000000 in
theorem flegs_any (k : Ky) (long : Bool) (A : Option Addr) (n c : Nat) (fs : List Fi) (w : World) (h : RowE enD3 w A n fs) (hn : n ≤ 100000) :
    Calls Try.prog 15 #[.agg #[.int .i64 k.1, .int .i64 k.2], .bool long, .slice A n c] w (FlPost k long fs w) := by
  have HI := Lib.hid h
  have HL := Lib.hid h.len
  have HE3 := Lib.hid (fun j hj h => @legsE_3 fs j hj h)
  have HE1 := Lib.hid (fun j hj ha h => @legsE_1 fs j hj ha h)
  have HE0 := Lib.hid (@legsE_0 fs)
  have HNO := Lib.hid (fun r w' h hr g => @FlPost.no k long fs r w w' h hr g)
  have HYES := Lib.hid (fun v w' h ho g => @FlPost.yes k long fs v w w' h ho g)
  generalize FlPost k long fs w = Q at *
  clear h
  obtain ⟨k1, k2⟩ := k
  dsimp only
  have HX0 : Hid (OwnC (w.alloc (.cells #[.int .i64 k1, .int .i64 k2] 24)) w.heap.size [.int .i64 k1, .int .i64 k2]) := OwnC.new w [.int .i64 k1, .int .i64 k2] _ _ rfl
  have HG0 : Hid (Grew w (w.alloc (.cells #[.int .i64 k1, .int .i64 k2] 24))) := grew_alloc _ _ _
  go_enter Try.func15, Try.ntmps15
  go_upto_region 1 with (fail)
  generalize w.alloc (.cells #[.int .i64 k1, .int .i64 k2] 24) = w0 at *
  generalize hN0 : w.heap.size = N0 at *
  have HN0 := Lib.hid hN0
  clear hN0
  go_wp2
  go_loopw [9, 19] (fun v9 v19 wr => ∃ j : Nat, v19 = .int .i64 j ∧ j ≤ n ∧ Hid (∀ i, i < j → okFi (fs.getD i fi0) = true) ∧ Hid (Grew w0 wr)) (fun _ v19 _ => n - (intOf v19).toNat)
  case atStart => exact ⟨0, rfl, by omega, (by intro i hi; omega), grew_refl _⟩
  case round =>
    obtain ⟨j, rfl, hj, HA, HG⟩ := hrel
    by_cases hlt : j < n
    · obtain ⟨b, o, rfl, hb, hc⟩ := (HI.out.keep (grew_trans HG0.out HG.out)).rD3 hlt
      obtain ⟨a0, a1, a2⟩ := hc j hlt
      have HV : Hid (okFi (fs.getD j fi0) = (wi (fs.getD j fi0).2.1 0 1099511627776 && wi (fs.getD j fi0).2.2 0 1073741824)) := rfl
      have HB3 : Hid (okFi (fs.getD j fi0) = false → legsE fs = 3) := fun h => HE3.out j (by rw [HL.out]; exact hlt) h
      have HA1 : Hid (okFi (fs.getD j fi0) = true → ∀ i, i < j + 1 → okFi (fs.getD i fi0) = true) := fun h i hi => by
        rcases Nat.lt_or_ge i j with h1 | h1
        · exact HA.out i h1
        · obtain rfl : i = j := by omega
          exact h
      have i0 : (0 : Int) ≤ (j : Int) := by omega
      have i1 : (j : Int) < (n : Int) := by omega
      clear hc hb
      generalize okFi (fs.getD j fi0) = V at *
      generalize fs.getD j fi0 = x at *
      obtain ⟨q1, q2, q3⟩ := x
      dsimp only at a0 a1 a2 HV
      have C1 := fun w => auwithin_any q2 0 1099511627776 w
      have C2 := fun w => auwithin_any q3 0 1073741824 w
      generalize wi q2 0 1099511627776 = R1 at *
      generalize wi q3 0 1073741824 = R2 at *
      have HX : Hid (OwnC (wr.alloc (.cells #[.int .i64 q1, .int .i64 q2, .int .i64 q3] 46)) wr.heap.size [.int .i64 q1, .int .i64 q2, .int .i64 q3]) := OwnC.new wr [.int .i64 q1, .int .i64 q2, .int .i64 q3] _ _ rfl
      have HG1 := Lib.hid (grew_trans HG.out (grew_alloc wr #[.int .i64 q1, .int .i64 q2, .int .i64 q3] 46))
      go_upto_region 4 with (fail)
      generalize (wr.alloc (.cells #[.int .i64 q1, .int .i64 q2, .int .i64 q3] 46)) = w1 at *
      generalize wr.heap.size = N at *
      have x1 := HX.out.at 1 _ rfl
      have x2 := HX.out.at 2 _ rfl
      clear HG HX a0 a1 a2
      have H : (R1 = false) ∨ (R1 = true ∧ R2 = false) ∨ (R1 = true ∧ R2 = true) := by cases R1 <;> cases R2 <;> simp
      rcases H with rfl | ⟨rfl, rfl⟩ | ⟨rfl, rfl⟩
      · have HF := Lib.hid (HB3.out (by rw [HV.out]; rfl))
        clear HB3 HA1 HV HA
        go_wp2_with (go_at_call 27; ((with_reducible refine (C1 _).mono ?_); rintro e w9 ⟨rfl, rfl⟩))
        exact HNO.out 3 _ HF.out (by decide) (grew_trans HG0.out HG1.out)
      · have HF := Lib.hid (HB3.out (by rw [HV.out]; rfl))
        clear HB3 HA1 HV HA
        go_wp2_with (first
          | (go_at_call 27; ((with_reducible refine (C1 _).mono ?_); rintro e w9 ⟨rfl, rfl⟩))
          | (go_at_call 27; ((with_reducible refine (C2 _).mono ?_); rintro e w9 ⟨rfl, rfl⟩)))
        exact HNO.out 3 _ HF.out (by decide) (grew_trans HG0.out HG1.out)
      · have HF := Lib.hid (HA1.out (by rw [HV.out]; rfl))
        clear HB3 HA1 HV HA
        go_wp2_with (first
          | (go_at_call 27; ((with_reducible refine (C1 _).mono ?_); rintro e w9 ⟨rfl, rfl⟩))
          | (go_at_call 27; ((with_reducible refine (C2 _).mono ?_); rintro e w9 ⟨rfl, rfl⟩)))
        go_roundw
        case rel => exact ⟨j + 1, by go_num, by omega, HF.out, HG1.out⟩
        case measure => simp only [intOf]; omega
    · obtain rfl : j = n := by omega
      have HALL := Lib.hid HA.out
      have HGR := Lib.hid HG.out
      clear HA HG hlt
      go_wp2
      rename World => wq
      go_loopw [10, 12, 13, 14, 15, 16, 36] (fun v10 v12 v13 v14 v15 v16 v36 wr => ∃ i : Nat, v36 = .int .i64 i ∧ i ≤ j ∧ Hid (∀ p, p < i → okMu (fs.getD p fi0) = true) ∧ Hid (OwnE enPo wr w0.heap.size 49 v10 (legsF (k1, k2) (sg long) (fs.take i))) ∧ Hid (Grew w0 wr)) (fun _ _ _ _ _ _ v36 _ => j - (intOf v36).toNat)
      case atStart => exact ⟨0, rfl, by omega, (by intro i hi; omega), OwnE.nil _ _ _ _, HGR.out⟩
      case round =>
        clear HGR
        obtain ⟨i, rfl, hi, HM, HT, HG⟩ := hrel
        by_cases hlt : i < j
        · obtain ⟨b, o, rfl, hb, hc⟩ := (HI.out.keep (grew_trans HG0.out HG.out)).rD3 hlt
          obtain ⟨a0, a1, a2⟩ := hc i hlt
          have HO1 := HALL.out i hlt
          have HV := Lib.hid (mul_of HO1)
          have HB1 : Hid (okMu (fs.getD i fi0) = false → legsE fs = 1) := fun h => HE1.out i (by rw [HL.out]; exact hlt) (by rw [HL.out]; exact HALL.out) h
          have HM1 : Hid (okMu (fs.getD i fi0) = true → ∀ p, p < i + 1 → okMu (fs.getD p fi0) = true) := fun h p hp => by
            rcases Nat.lt_or_ge p i with h1 | h1
            · exact HM.out p h1
            · obtain rfl : p = i := by omega
              exact h
          have HLE : Hid (legsF (k1, k2) (sg long) (fs.take (i + 1)) = legsF (k1, k2) (sg long) (fs.take i) ++ [((fs.getD i fi0).1, k2, sg long * (fs.getD i fi0).2.1, sg long * ((fs.getD i fi0).2.1 * (fs.getD i fi0).2.2)), (k1, k2, -(sg long * (fs.getD i fi0).2.1), -(sg long * ((fs.getD i fi0).2.1 * (fs.getD i fi0).2.2)))]) := legsF_take (k1, k2) (sg long) fs i (by rw [HL.out]; exact hlt)
          have HLL : Hid ((legsF (k1, k2) (sg long) (fs.take i)).length ≤ 200000) := by show _ ≤ _; rw [legsF_len, List.length_take]; omega
          have HBD : Hid (okMu (fs.getD i fi0) = true → -4611686018427387904 ≤ (fs.getD i fi0).2.1 * (fs.getD i fi0).2.2 ∧ (fs.getD i fi0).2.1 * (fs.getD i fi0).2.2 ≤ 4611686018427387904) := fun h => (isMoney_iff _).1 h
          have hqq := ((okFi_iff _).1 HO1).1
          have i0 : (0 : Int) ≤ (i : Int) := by omega
          have i1 : (i : Int) < (j : Int) := by omega
          clear hc hb HO1
          generalize okMu (fs.getD i fi0) = V at *
          generalize fs.getD i fi0 = x at *
          obtain ⟨q1, q2, q3⟩ := x
          dsimp only at a0 a1 a2 HV HLE HBD hqq
          obtain ⟨hq0, hq9⟩ := hqq
          have CT := fun w => times_any q2 q3 w
          generalize hp : q2 * q3 = p at *
          clear hp
          generalize mulV q2 q3 = mv at *
          generalize mulE q2 q3 = me at *
          have HX : Hid (OwnC (wr.alloc (.cells #[.int .i64 q1, .int .i64 q2, .int .i64 q3] 46)) wr.heap.size [.int .i64 q1, .int .i64 q2, .int .i64 q3]) := OwnC.new wr [.int .i64 q1, .int .i64 q2, .int .i64 q3] _ _ rfl
          have HT1 := Lib.hid (HT.out.keep (grew_alloc wr #[.int .i64 q1, .int .i64 q2, .int .i64 q3] 46))
          have HG1 := Lib.hid (grew_trans HG.out (grew_alloc wr #[.int .i64 q1, .int .i64 q2, .int .i64 q3] 46))
          go_upto_region 11 with (fail)
          generalize (wr.alloc (.cells #[.int .i64 q1, .int .i64 q2, .int .i64 q3] 46)) = w1 at *
          generalize wr.heap.size = N at *
          have x0 := HX.out.at 0 _ rfl
          have x1 := HX.out.at 1 _ rfl
          have x2 := HX.out.at 2 _ rfl
          clear HG HT a0 a1 a2 HM
          go_upto_region 13 with (go_at_call 32; ((with_reducible refine (CT _).mono ?_); rintro e w5 ⟨rfl, hg⟩; have HG5 : Hid (Grew w0 w5) := grew_trans HG1.out hg; have HT5 := Lib.hid (HT1.out.keep hg); have HX5 := Lib.hid (HX.out.keep hg); clear hg x0 x1 x2))
          have x0 := HX5.out.at 0 _ rfl
          have z0 := (HX0.out.keep HG5.out).at 0 _ rfl
          have z1 := (HX0.out.keep HG5.out).at 1 _ rfl
          clear HX HX5 HT1 HG1
          cases V
          · have HF := Lib.hid (HB1.out rfl)
            have me1 := HV.out.2 rfl
            subst me1
            clear HB1 HM1 HLE HBD HV
            go_wp2
            exact HNO.out 1 _ HF.out (by decide) (grew_trans HG0.out HG5.out)
          · have HM2 := Lib.hid (HM1.out rfl)
            obtain ⟨mv1, me1⟩ := HV.out.1 rfl
            subst me1 mv1
            obtain ⟨hp1, hp2⟩ := HBD.out rfl
            clear HB1 HM1 HBD HV
            have HXT : Hid (OwnC (w5.alloc (.cells #[.int .i64 q1, .int .i64 k2] 24)) w5.heap.size [.int .i64 q1, .int .i64 k2]) := OwnC.new w5 [.int .i64 q1, .int .i64 k2] _ _ rfl
            have HT0 := Lib.hid (HT5.out.keep (grew_alloc w5 #[.int .i64 q1, .int .i64 k2] 24))
            have HG6 := Lib.hid (grew_trans HG5.out (grew_alloc w5 #[.int .i64 q1, .int .i64 k2] 24))
            have e1 : IntKind.i64.wrap (-q2) = -q2 := by rw [IntKind.wrap_i64]; omega
            have e2 : IntKind.i64.wrap (-mv) = -mv := by rw [IntKind.wrap_i64]; omega
            have e3 : IntKind.i64.wrap q2 = q2 := by rw [IntKind.wrap_i64]; omega
            have e4 : IntKind.i64.wrap mv = mv := by rw [IntKind.wrap_i64]; omega
            have e5 : IntKind.i64.wrap (- -q2) = q2 := by rw [IntKind.wrap_i64]; omega
            have e6 : IntKind.i64.wrap (- -mv) = mv := by rw [IntKind.wrap_i64]; omega
            cases long
            · have HLF : Hid (legsF (k1, k2) (sg false) (fs.take (i + 1)) = legsF (k1, k2) (sg false) (fs.take i) ++ [(q1, k2, -q2, -mv), (k1, k2, q2, mv)]) := by
                have e : sg false = -1 := rfl
                show _ = _
                rw [HLE.out, e, show (-1 : Int) * q2 = -q2 by omega, show (-1 : Int) * mv = -mv by omega, Int.neg_neg, Int.neg_neg]
              clear HLE
              go_upto_region 18 with (fail)
              generalize (w5.alloc (.cells #[.int .i64 q1, .int .i64 k2] 24)) = w6 at *
              generalize w5.heap.size = N5 at *
              have y0 := HXT.out.at 0 _ rfl
              have y1 := HXT.out.at 1 _ rfl
              have z0 := (HX0.out.keep HG6.out).at 0 _ rfl
              have z1 := (HX0.out.keep HG6.out).at 1 _ rfl
              go_wp2_with (at_builtin; refine (wpList_append_E rfl _ _ 37 49 (vPo po0) 32 rfl Try.underlying37 info_po rfl w0.heap.size _ _ rfl (HT0.out.keep (grew_alloc _ _ _)) (some ⟨w6.heap.size, 0, none⟩) 2 2 [(q1, k2, -q2, -mv), (k1, k2, q2, mv)] rfl (by intro h; cases h) (rowE_lits enPo [(q1, k2, -q2, -mv), (k1, k2, q2, mv)] w6 49 _ rfl _ 2 rfl rfl) (by have := HLL.out; unfold maxLen; omega) (by have := HLL.out; omega) (Nat.le_trans (grew_size HG6.out) (by simp)) ?_); intro v' w7 ho hb; have HO7 := Lib.hid ho; have HG7 : Hid (Grew w0 w7) := Below.trans (grew_trans HG6.out (grew_alloc _ _ _)) hb; clear ho hb)
              go_roundw
              case rel => exact ⟨i + 1, by go_num, by omega, HM2.out, by rw [HLF.out]; exact HO7.out, HG7.out⟩
              case measure => simp only [intOf]; omega
            · have HLF : Hid (legsF (k1, k2) (sg true) (fs.take (i + 1)) = legsF (k1, k2) (sg true) (fs.take i) ++ [(q1, k2, q2, mv), (k1, k2, -q2, -mv)]) := by
                have e : sg true = 1 := rfl
                show _ = _
                rw [HLE.out, e, Int.one_mul, Int.one_mul]
              clear HLE
              go_upto_region 18 with (fail)
              generalize (w5.alloc (.cells #[.int .i64 q1, .int .i64 k2] 24)) = w6 at *
              generalize w5.heap.size = N5 at *
              have y0 := HXT.out.at 0 _ rfl
              have y1 := HXT.out.at 1 _ rfl
              have z0 := (HX0.out.keep HG6.out).at 0 _ rfl
              have z1 := (HX0.out.keep HG6.out).at 1 _ rfl
              go_wp2_with (at_builtin; refine (wpList_append_E rfl _ _ 37 49 (vPo po0) 32 rfl Try.underlying37 info_po rfl w0.heap.size _ _ rfl (HT0.out.keep (grew_alloc _ _ _)) (some ⟨w6.heap.size, 0, none⟩) 2 2 [(q1, k2, q2, mv), (k1, k2, -q2, -mv)] rfl (by intro h; cases h) (rowE_lits enPo [(q1, k2, q2, mv), (k1, k2, -q2, -mv)] w6 49 _ rfl _ 2 rfl rfl) (by have := HLL.out; unfold maxLen; omega) (by have := HLL.out; omega) (Nat.le_trans (grew_size HG6.out) (by simp)) ?_); intro v' w7 ho hb; have HO7 := Lib.hid ho; have HG7 : Hid (Grew w0 w7) := Below.trans (grew_trans HG6.out (grew_alloc _ _ _)) hb; clear ho hb)
              go_roundw
              case rel => exact ⟨i + 1, by go_num, by omega, HM2.out, by rw [HLF.out]; exact HO7.out, HG7.out⟩
              case measure => simp only [intOf]; omega
        · obtain rfl : i = j := by omega
          have HF := Lib.hid (HE0.out (by rw [HL.out]; exact HALL.out) (by rw [HL.out]; exact HM.out))
          have HTE : Hid (fs.take i = fs) := List.take_of_length_le (by rw [HL.out]; exact Nat.le_refl _)
          rw [HTE.out] at HT
          go_wp2
          exact HYES.out _ _ HF.out (HT.out.mono (by have := grew_size HG0.out; have := HN0.out; omega)) (grew_trans HG0.out HG.out)
end Go.Proofs.Ytahioajpmlochaa.NumK
namespace Go.Proofs.Ytahioajpmlochaa.NumK
open Go.RowKit

/-! ### Int: as money -/



set_option maxHeartbeats 1000000 in
theorem refInt_money (x : Int) (w : World) (h : isMoney x = true) :
    Calls Try.prog 42 #[(.agg #[.int .i64 (hi64 (x)), .int .u64 (lo64 (x))])] w fun e w' => e = .returned (.tuple #[.int .i64 (intV x), .bool (isMoney x)]) ∧ Grew w w' := by
  have hx := (isMoney_iff x).1 h
  have b1 := lo_bounds x
  have L : wrap64 (lo64 x) = x := by unfold wrap64 lo64; omega
  have C1 := fun w => of_any x w (by omega)
  have C2 := fun w => refRight_any x w
  rw [h] at C2
  have E1 := Lib.hid (intV_in h)
  have E2 := Lib.hid h
  clear h hx b1
  generalize hi64 x = hh at *
  generalize lo64 x = l at *
  go_enter Try.func42, Try.ntmps42
  go_wp2
  go_region_held3 (fun w' => w'.cell? ⟨w.heap.size, 0, none⟩ = some (.int .i64 hh) ∧ w'.cell? ⟨w.heap.size, 1, none⟩ = some (.int .u64 l) ∧ w.heap.size < w'.heap.size ∧ Grew w w')
    (first
      | (exact keep2 (by assumption) (by first | assumption | simp) (by first | assumption | simp) (by first | assumption | simp) (by first | assumption | exact grew_drew (grew_alloc _ _ _)))
      | (refine ⟨by simp, by simp, by simp, grew_drew (grew_alloc _ _ _)⟩))
    (first
      | (go_at_call 46; refine (C1 _).mono ?_; rintro e w1 ⟨rfl, hg1⟩)
      | (go_at_call 47; refine (C2 _).mono ?_; rintro e w2 ⟨rfl, rfl⟩))
  rename_i hS
  go_wp2
  go_ret2
  exact ⟨ret_vb E1.out.symm E2.out.symm, hS.2.2.2⟩

set_option maxHeartbeats 1000000 in
theorem refInt_far (x : Int) (w : World) (h : isMoney x = false) (hf : hi64 (wrap64 (lo64 x)) ≠ hi64 x) :
    Calls Try.prog 42 #[(.agg #[.int .i64 (hi64 (x)), .int .u64 (lo64 (x))])] w fun e w' => e = .returned (.tuple #[.int .i64 (intV x), .bool (isMoney x)]) ∧ Grew w w' := by
  have b1 := lo_bounds x
  have bn : -9223372036854775808 ≤ wrap64 (lo64 x) ∧ wrap64 (lo64 x) ≤ 9223372036854775807 := by unfold wrap64; omega
  have hl : lo64 (wrap64 (lo64 x)) = lo64 x := by unfold wrap64 lo64; omega
  have C1 := fun w => of_any (wrap64 (lo64 x)) w bn
  have E1 := Lib.hid (intV_out h)
  have E2 := Lib.hid h
  have d1 : (hi64 (wrap64 (lo64 x)) == hi64 x) = false := by simpa using hf
  have d2 : (hi64 (wrap64 (lo64 x)) != hi64 x) = true := by simpa using hf
  have d3 : decide (hi64 (wrap64 (lo64 x)) = hi64 x) = false := by simpa using hf
  rw [hl] at C1
  clear h b1 hl hf
  generalize hi64 (wrap64 (lo64 x)) = hn at *
  generalize hi64 x = hh at *
  generalize lo64 x = l at *
  go_enter Try.func42, Try.ntmps42
  go_wp2
  first
  | (go_region_with (first
      | (go_at_call 46; refine (C1 _).mono ?_; rintro e w1 ⟨rfl, hg1⟩; have kc := keep2 (v0 := .int .i64 hh) (v1 := .int .u64 l) hg1 (by simp) (by simp) (by simp) (grew_drew (grew_alloc _ _ _)); obtain ⟨k1, k2, k3, k4⟩ := kc)))
  | fail
  all_goals
    go_wp2
    go_ret2
    exact ⟨ret_vb E1.out.symm E2.out.symm, by assumption⟩

set_option maxHeartbeats 1000000 in
theorem refInt_near (x : Int) (w : World) (h : isMoney x = false) (L : wrap64 (lo64 x) = x) :
    Calls Try.prog 42 #[(.agg #[.int .i64 (hi64 (x)), .int .u64 (lo64 (x))])] w fun e w' => e = .returned (.tuple #[.int .i64 (intV x), .bool (isMoney x)]) ∧ Grew w w' := by
  have b1 := lo_bounds x
  have bn : -9223372036854775808 ≤ wrap64 (lo64 x) ∧ wrap64 (lo64 x) ≤ 9223372036854775807 := by unfold wrap64; omega
  rw [L] at bn
  have C1 := fun w => of_any x w bn
  have C2 := fun w => refRight_any x w
  rw [h] at C2
  have E1 := Lib.hid (intV_out h)
  have E2 := Lib.hid h
  clear h b1
  generalize hi64 x = hh at *
  generalize lo64 x = l at *
  go_enter Try.func42, Try.ntmps42
  go_wp2
  go_region_held3 (fun w' => w'.cell? ⟨w.heap.size, 0, none⟩ = some (.int .i64 hh) ∧ w'.cell? ⟨w.heap.size, 1, none⟩ = some (.int .u64 l) ∧ w.heap.size < w'.heap.size ∧ Grew w w')
    (first
      | (exact keep2 (by assumption) (by first | assumption | simp) (by first | assumption | simp) (by first | assumption | simp) (by first | assumption | exact grew_drew (grew_alloc _ _ _)))
      | (refine ⟨by simp, by simp, by simp, grew_drew (grew_alloc _ _ _)⟩))
    (first
      | (go_at_call 46; refine (C1 _).mono ?_; rintro e w1 ⟨rfl, hg1⟩)
      | (go_at_call 47; refine (C2 _).mono ?_; rintro e w2 ⟨rfl, rfl⟩))
  rename_i hS
  go_wp2
  go_ret2
  exact ⟨ret_vb E1.out.symm E2.out.symm, hS.2.2.2⟩

theorem refInt_any (x : Int) (w : World) :
    Calls Try.prog 42 #[(.agg #[.int .i64 (hi64 (x)), .int .u64 (lo64 (x))])] w fun e w' => e = .returned (.tuple #[.int .i64 (intV x), .bool (isMoney x)]) ∧ Grew w w' := by
  by_cases h : isMoney x = true
  · exact refInt_money x w h
  · simp only [Bool.not_eq_true] at h
    by_cases hf : hi64 (wrap64 (lo64 x)) = hi64 x
    · refine refInt_near x w h ?_
      have b1 := lo_bounds x
      have e1 := w_eq x
      have e2 := w_eq (wrap64 (lo64 x))
      have hl : lo64 (wrap64 (lo64 x)) = lo64 x := by unfold wrap64 lo64; omega
      rw [hf, hl] at e2
      omega
    · exact refInt_far x w h hf
end Go.Proofs.Ytahioajpmlochaa.NumK
namespace Go.Proofs.Ytahioajpmlochaa.NumK
open Go.RowKit

theorem mul_any (a b : Int) (w : World) (ha : isMoney a = true) (hb : isMoney b = true) :
    Calls Try.prog 33 #[.int .i64 a, .int .i64 b] w fun e w' => e = .returned (.tuple #[.int .i64 (intV (a * b)), .bool (isMoney (a * b))]) ∧ Grew w w' := by
  rw [isMoney_iff] at ha hb
  have C := refTimes_any a b w (by omega) (by omega)
  have D := fun w => refInt_any (a * b) w
  clear ha hb
  generalize a * b = p at *
  go_enter Try.func33, Try.ntmps33
  go_wp2_with (first
    | (go_at_call 43; ((with_reducible refine C.mono ?_); rintro e w2 ⟨rfl, hg2⟩))
    | (go_at_call 42; ((with_reducible refine (D _).mono ?_); rintro e w3 ⟨rfl, hg3⟩)))
  go_ret2
  exact ⟨rfl, grew_trans hg2 hg3⟩
end Go.Proofs.Ytahioajpmlochaa.NumK
