/- What stage 13's laws do: an act; what they wake. -/
import Derived.Test.YtkbmiajgmnfpfaaRV
namespace Go.Proofs.Ytkbmiajgmnfpfaa.NumK
open Go.RowKit
set_option linter.unusedVariables false

/-- An act: what, the number, the quantity, the price; the trade. -/
abbrev Ac13 := (Int × Int × Int × Int) × Tr
abbrev ac130 : Ac13 := ((0, 0, 0, 0), tr0)
def enAc13 : En Ac13 := ⟨11, fun a => [.int .i64 a.1.1, .int .i64 a.1.2.1, .int .i64 a.1.2.2.1, .int .i64 a.1.2.2.2] ++ enTr.cs a.2, fun _ => rfl, fun a v hv => by
  simp [enTr] at hv; rcases hv with rfl | rfl | rfl | rfl | rfl | rfl | rfl | rfl | rfl | rfl | rfl <;> rfl, by decide⟩
abbrev vAc13 (a : Ac13) : Value := .agg #[.int .i64 a.1.1, .int .i64 a.1.2.1, .int .i64 a.1.2.2.1, .int .i64 a.1.2.2.2, .int .i64 a.2.1.1, .int .i64 a.2.1.2.1, .int .i64 a.2.1.2.2.1, .int .i64 a.2.1.2.2.2.1, .int .i64 a.2.1.2.2.2.2.1, .int .i64 a.2.1.2.2.2.2.2, .bool a.2.2]
/-- Which act. -/
def kind13 (a : Ac13) : Int := (IntKind.u64.wrap a.1.1).tmod 6
def doE (b : Bk) (a : Ac13) : Int := if kind13 a = 3 then cancelE b a.1.2.1 else if kind13 a = 4 then corrE b a.1.2.1 a.1.2.2.1 a.1.2.2.2 else if kind13 a = 5 then 0 else enterE b a.2
def doB (b : Bk) (a : Ac13) : Bk := if kind13 a = 3 then cancelB b a.1.2.1 else if kind13 a = 4 then corrB b a.1.2.1 a.1.2.2.1 a.1.2.2.2 else if kind13 a = 5 then clearB b else enterB b a.2
theorem GB.do {b : Bk} {k : Nat} {a : Ac13} (h : GB b k) (he : doE b a = 0) : GB (doB b a) (k + 1) := by
  unfold doE at he
  unfold doB
  by_cases h3 : kind13 a = 3
  · rw [if_pos h3] at he ⊢; exact (h.cancel he).mono (Nat.le_succ _)
  · rw [if_neg h3] at he ⊢
    by_cases h4 : kind13 a = 4
    · rw [if_pos h4] at he ⊢; exact h.corr he
    · rw [if_neg h4] at he ⊢
      by_cases h5 : kind13 a = 5
      · rw [if_pos h5]; exact h.clear.mono (Nat.le_succ _)
      · rw [if_neg h5] at he ⊢; exact h.enter he

set_option maxRecDepth 100000 in
set_option maxHeartbeats 8000000 in
theorem do13_any (b : Bk) (a : Ac13) (A1 A2 : Option Addr) (n1 n2 c1 c2 : Nat) (w : World) (h : InB w b A1 A2 n1 n2 c1 c2) (hn : n1 ≤ 10000 ∧ n2 ≤ 10000) :
    Calls Try.prog 49 #[vBk b.1 A1 A2 n1 n2 c1 c2, vAc13 a] w (BookE (doB b a) (doE b a) w) := by
  have HKI : Hid (kind13 a = (IntKind.u64.wrap a.1.1).tmod 6) := rfl
  have HPP : Hid (∀ e w', BookE (doB b a) (doE b a) w e w' → BookE (doB b a) (doE b a) w e w') := fun _ _ h => h
  by_cases k3 : kind13 a = 3
  · have CC := fun w' (g : Grew w w') => cancel_any b a.1.2.1 A1 A2 n1 n2 c1 c2 w' (h.keep g) hn
    have hE : doE b a = cancelE b a.1.2.1 := by unfold doE; rw [if_pos k3]
    have hB : doB b a = cancelB b a.1.2.1 := by unfold doB; rw [if_pos k3]
    rw [hE, hB]
    unfold BookE at CC
    rw [HKI.out] at k3
    obtain ⟨⟨a1, a2, a3, a4⟩, ⟨⟨q1, q2, q3, q4, q5, q6⟩, q7⟩⟩ := a
    clear HPP HKI hE hB h
    dsimp only [vBk, vAc13, vTr] at *
    generalize cancelE b a2 = ee at *
    generalize cancelB b a2 = eb at *
    obtain ⟨ex, el, ep⟩ := eb
    dsimp only at CC
    generalize b.1 = nx at *
    have HX0 : Hid (OwnC (((w.alloc (.cells #[.int .i64 nx, .slice A1 n1 c1, .slice A2 n2 c2] 25)).alloc (.cells #[.int .i64 a1, .int .i64 a2, .int .i64 a3, .int .i64 a4, .int .i64 q1, .int .i64 q2, .int .i64 q3, .int .i64 q4, .int .i64 q5, .int .i64 q6, .bool q7] 82)).alloc (.cells #[.int .i64 0, .slice none 0 0, .slice none 0 0] 25)) w.heap.size [.int .i64 nx, .slice A1 n1 c1, .slice A2 n2 c2]) := ((OwnC.new w [.int .i64 nx, .slice A1 n1 c1, .slice A2 n2 c2] _ _ rfl).keep (grew_alloc _ _ _)).keep (grew_alloc _ _ _)
    have HA0 : Hid (OwnC (((w.alloc (.cells #[.int .i64 nx, .slice A1 n1 c1, .slice A2 n2 c2] 25)).alloc (.cells #[.int .i64 a1, .int .i64 a2, .int .i64 a3, .int .i64 a4, .int .i64 q1, .int .i64 q2, .int .i64 q3, .int .i64 q4, .int .i64 q5, .int .i64 q6, .bool q7] 82)).alloc (.cells #[.int .i64 0, .slice none 0 0, .slice none 0 0] 25)) (w.heap.size + 1) [.int .i64 a1, .int .i64 a2, .int .i64 a3, .int .i64 a4, .int .i64 q1, .int .i64 q2, .int .i64 q3, .int .i64 q4, .int .i64 q5, .int .i64 q6, .bool q7]) := (OwnC.new _ [.int .i64 a1, .int .i64 a2, .int .i64 a3, .int .i64 a4, .int .i64 q1, .int .i64 q2, .int .i64 q3, .int .i64 q4, .int .i64 q5, .int .i64 q6, .bool q7] _ _ (by simp)).keep (grew_alloc _ _ _)
    have HZ0 : Hid (OwnC (((w.alloc (.cells #[.int .i64 nx, .slice A1 n1 c1, .slice A2 n2 c2] 25)).alloc (.cells #[.int .i64 a1, .int .i64 a2, .int .i64 a3, .int .i64 a4, .int .i64 q1, .int .i64 q2, .int .i64 q3, .int .i64 q4, .int .i64 q5, .int .i64 q6, .bool q7] 82)).alloc (.cells #[.int .i64 0, .slice none 0 0, .slice none 0 0] 25)) (w.heap.size + 1 + 1) [.int .i64 0, .slice none 0 0, .slice none 0 0]) := OwnC.new _ [.int .i64 0, .slice none 0 0, .slice none 0 0] _ _ (by simp)
    have HG0 : Hid (Grew w (((w.alloc (.cells #[.int .i64 nx, .slice A1 n1 c1, .slice A2 n2 c2] 25)).alloc (.cells #[.int .i64 a1, .int .i64 a2, .int .i64 a3, .int .i64 a4, .int .i64 q1, .int .i64 q2, .int .i64 q3, .int .i64 q4, .int .i64 q5, .int .i64 q6, .bool q7] 82)).alloc (.cells #[.int .i64 0, .slice none 0 0, .slice none 0 0] 25))) := grew_trans (grew_trans (grew_alloc _ _ _) (grew_alloc _ _ _)) (grew_alloc _ _ _)
    have d3 : ((IntKind.u64.wrap a1).tmod 6 == 3) = true := by simpa using k3
    go_enter Try.func49, Try.ntmps49
    go_upto_region 1 with fail
    generalize ((w.alloc (.cells #[.int .i64 nx, .slice A1 n1 c1, .slice A2 n2 c2] 25)).alloc (.cells #[.int .i64 a1, .int .i64 a2, .int .i64 a3, .int .i64 a4, .int .i64 q1, .int .i64 q2, .int .i64 q3, .int .i64 q4, .int .i64 q5, .int .i64 q6, .bool q7] 82)).alloc (.cells #[.int .i64 0, .slice none 0 0, .slice none 0 0] 25) = w0 at *
    have hsz : w.heap.size + 1 + 1 < w0.heap.size := HZ0.out.lt
    have x0 : w0.cell? ⟨w.heap.size, 0, none⟩ = some (.int .i64 nx) := HX0.out.at 0 _ rfl
    have x1 : w0.cell? ⟨w.heap.size, 1, none⟩ = some (.slice A1 n1 c1) := HX0.out.at 1 _ rfl
    have x2 : w0.cell? ⟨w.heap.size, 2, none⟩ = some (.slice A2 n2 c2) := HX0.out.at 2 _ rfl
    have s0 : w0.cell? ⟨w.heap.size + 1, 0, none⟩ = some (.int .i64 a1) := HA0.out.at 0 _ rfl
    have s1 : w0.cell? ⟨w.heap.size + 1, 1, none⟩ = some (.int .i64 a2) := HA0.out.at 1 _ rfl
    have s2 : w0.cell? ⟨w.heap.size + 1, 2, none⟩ = some (.int .i64 a3) := HA0.out.at 2 _ rfl
    have s3 : w0.cell? ⟨w.heap.size + 1, 3, none⟩ = some (.int .i64 a4) := HA0.out.at 3 _ rfl
    have s4 : w0.cell? ⟨w.heap.size + 1, 4, none⟩ = some (.int .i64 q1) := HA0.out.at 4 _ rfl
    have s5 : w0.cell? ⟨w.heap.size + 1, 5, none⟩ = some (.int .i64 q2) := HA0.out.at 5 _ rfl
    have s6 : w0.cell? ⟨w.heap.size + 1, 6, none⟩ = some (.int .i64 q3) := HA0.out.at 6 _ rfl
    have s7 : w0.cell? ⟨w.heap.size + 1, 7, none⟩ = some (.int .i64 q4) := HA0.out.at 7 _ rfl
    have s8 : w0.cell? ⟨w.heap.size + 1, 8, none⟩ = some (.int .i64 q5) := HA0.out.at 8 _ rfl
    have s9 : w0.cell? ⟨w.heap.size + 1, 9, none⟩ = some (.int .i64 q6) := HA0.out.at 9 _ rfl
    have s10 : w0.cell? ⟨w.heap.size + 1, 10, none⟩ = some (.bool q7) := HA0.out.at 10 _ rfl
    go_wp2_with (go_at_call 26; ((with_reducible refine (CC _ HG0.out).mono ?_); rintro e w1 ⟨B1, B2, d1, d2, rfl, hb, hg⟩; have HB1 := Lib.hid (hb.mono hsz); have HG1 := Lib.hid (grew_trans HG0.out hg); have HZ1 := Lib.hid (HZ0.out.keep hg); have hs1 := HZ1.out.lt; have y0 : w1.cell? ⟨w.heap.size + 1 + 1, 0, none⟩ = some (.int .i64 0) := HZ1.out.at 0 _ rfl; have f0 : w1.frozen? ⟨w.heap.size + 1 + 1, 0, none⟩ = false := HZ1.out.fr 0 (by decide); have y1 : w1.cell? ⟨w.heap.size + 1 + 1, 1, none⟩ = some (.slice none 0 0) := HZ1.out.at 1 _ rfl; have f1 : w1.frozen? ⟨w.heap.size + 1 + 1, 1, none⟩ = false := HZ1.out.fr 1 (by decide); have y2 : w1.cell? ⟨w.heap.size + 1 + 1, 2, none⟩ = some (.slice none 0 0) := HZ1.out.at 2 _ rfl; have f2 : w1.frozen? ⟨w.heap.size + 1 + 1, 2, none⟩ = false := HZ1.out.fr 2 (by decide); clear hb hg CC; clear x0 x1 x2 s0 s1 s2 s3 s4 s5 s6 s7 s8 s9 s10))
    have HP := (HZ1.out.all [.int .i64 ex, .slice B1 el.length d1, .slice B2 ep.length d2] rfl)
    have HGP := grew_put (w := w) (w.heap.size + 1 + 1) (by omega) [.int .i64 ex, .slice B1 el.length d1, .slice B2 ep.length d2] 0 _ HG1.out
    have HBP := (HB1.out.put (b2 := w.heap.size + 1 + 1) (by omega) [.int .i64 ex, .slice B1 el.length d1, .slice B2 ep.length d2])
    change bodyPost _ _ _ _ _ (putC w1 (w.heap.size + 1 + 1) 0 [.int .i64 ex, .slice B1 el.length d1, .slice B2 ep.length d2])
    clear y0 y1 y2 f0 f1 f2
    generalize (putC w1 (w.heap.size + 1 + 1) 0 [.int .i64 ex, .slice B1 el.length d1, .slice B2 ep.length d2]) = w9 at *
    have z0 : w9.cell? ⟨w.heap.size + 1 + 1, 0, none⟩ = _ := HP.at 0 _ rfl
    have z1 : w9.cell? ⟨w.heap.size + 1 + 1, 1, none⟩ = _ := HP.at 1 _ rfl
    have z2 : w9.cell? ⟨w.heap.size + 1 + 1, 2, none⟩ = _ := HP.at 2 _ rfl
    refine bodyPost_ret (v := .tuple #[.agg #[.int .i64 ex, .slice B1 el.length d1, .slice B2 ep.length d2], .int .i64 ee]) (by simp [results, Try.results49, go_sem, z0, z1, z2]) rfl ?_
    exact ⟨B1, B2, d1, d2, rfl, HBP.mono (by omega), HGP⟩
  · by_cases k4 : kind13 a = 4
    · have CC := fun w' (g : Grew w w') => corr_any b a.1.2.1 a.1.2.2.1 a.1.2.2.2 A1 A2 n1 n2 c1 c2 w' (h.keep g) hn
      have hE : doE b a = corrE b a.1.2.1 a.1.2.2.1 a.1.2.2.2 := by unfold doE; rw [if_neg k3, if_pos k4]
      have hB : doB b a = corrB b a.1.2.1 a.1.2.2.1 a.1.2.2.2 := by unfold doB; rw [if_neg k3, if_pos k4]
      rw [hE, hB]
      unfold BookN at CC
      rw [HKI.out] at k3 k4
      obtain ⟨⟨a1, a2, a3, a4⟩, ⟨⟨q1, q2, q3, q4, q5, q6⟩, q7⟩⟩ := a
      clear HPP HKI hE hB h
      dsimp only [vBk, vAc13, vTr] at *
      generalize corrE b a2 a3 a4 = ee at *
      generalize corrN b a2 a3 a4 = en at *
      generalize corrB b a2 a3 a4 = eb at *
      obtain ⟨ex, el, ep⟩ := eb
      dsimp only at CC
      generalize b.1 = nx at *
      have HX0 : Hid (OwnC (((w.alloc (.cells #[.int .i64 nx, .slice A1 n1 c1, .slice A2 n2 c2] 25)).alloc (.cells #[.int .i64 a1, .int .i64 a2, .int .i64 a3, .int .i64 a4, .int .i64 q1, .int .i64 q2, .int .i64 q3, .int .i64 q4, .int .i64 q5, .int .i64 q6, .bool q7] 82)).alloc (.cells #[.int .i64 0, .slice none 0 0, .slice none 0 0] 25)) w.heap.size [.int .i64 nx, .slice A1 n1 c1, .slice A2 n2 c2]) := ((OwnC.new w [.int .i64 nx, .slice A1 n1 c1, .slice A2 n2 c2] _ _ rfl).keep (grew_alloc _ _ _)).keep (grew_alloc _ _ _)
      have HA0 : Hid (OwnC (((w.alloc (.cells #[.int .i64 nx, .slice A1 n1 c1, .slice A2 n2 c2] 25)).alloc (.cells #[.int .i64 a1, .int .i64 a2, .int .i64 a3, .int .i64 a4, .int .i64 q1, .int .i64 q2, .int .i64 q3, .int .i64 q4, .int .i64 q5, .int .i64 q6, .bool q7] 82)).alloc (.cells #[.int .i64 0, .slice none 0 0, .slice none 0 0] 25)) (w.heap.size + 1) [.int .i64 a1, .int .i64 a2, .int .i64 a3, .int .i64 a4, .int .i64 q1, .int .i64 q2, .int .i64 q3, .int .i64 q4, .int .i64 q5, .int .i64 q6, .bool q7]) := (OwnC.new _ [.int .i64 a1, .int .i64 a2, .int .i64 a3, .int .i64 a4, .int .i64 q1, .int .i64 q2, .int .i64 q3, .int .i64 q4, .int .i64 q5, .int .i64 q6, .bool q7] _ _ (by simp)).keep (grew_alloc _ _ _)
      have HZ0 : Hid (OwnC (((w.alloc (.cells #[.int .i64 nx, .slice A1 n1 c1, .slice A2 n2 c2] 25)).alloc (.cells #[.int .i64 a1, .int .i64 a2, .int .i64 a3, .int .i64 a4, .int .i64 q1, .int .i64 q2, .int .i64 q3, .int .i64 q4, .int .i64 q5, .int .i64 q6, .bool q7] 82)).alloc (.cells #[.int .i64 0, .slice none 0 0, .slice none 0 0] 25)) (w.heap.size + 1 + 1) [.int .i64 0, .slice none 0 0, .slice none 0 0]) := OwnC.new _ [.int .i64 0, .slice none 0 0, .slice none 0 0] _ _ (by simp)
      have HG0 : Hid (Grew w (((w.alloc (.cells #[.int .i64 nx, .slice A1 n1 c1, .slice A2 n2 c2] 25)).alloc (.cells #[.int .i64 a1, .int .i64 a2, .int .i64 a3, .int .i64 a4, .int .i64 q1, .int .i64 q2, .int .i64 q3, .int .i64 q4, .int .i64 q5, .int .i64 q6, .bool q7] 82)).alloc (.cells #[.int .i64 0, .slice none 0 0, .slice none 0 0] 25))) := grew_trans (grew_trans (grew_alloc _ _ _) (grew_alloc _ _ _)) (grew_alloc _ _ _)
      have d3 : ((IntKind.u64.wrap a1).tmod 6 == 3) = false := by simpa using k3
      have d4 : ((IntKind.u64.wrap a1).tmod 6 == 4) = true := by simpa using k4
      go_enter Try.func49, Try.ntmps49
      go_upto_region 1 with fail
      generalize ((w.alloc (.cells #[.int .i64 nx, .slice A1 n1 c1, .slice A2 n2 c2] 25)).alloc (.cells #[.int .i64 a1, .int .i64 a2, .int .i64 a3, .int .i64 a4, .int .i64 q1, .int .i64 q2, .int .i64 q3, .int .i64 q4, .int .i64 q5, .int .i64 q6, .bool q7] 82)).alloc (.cells #[.int .i64 0, .slice none 0 0, .slice none 0 0] 25) = w0 at *
      have hsz : w.heap.size + 1 + 1 < w0.heap.size := HZ0.out.lt
      have x0 : w0.cell? ⟨w.heap.size, 0, none⟩ = some (.int .i64 nx) := HX0.out.at 0 _ rfl
      have x1 : w0.cell? ⟨w.heap.size, 1, none⟩ = some (.slice A1 n1 c1) := HX0.out.at 1 _ rfl
      have x2 : w0.cell? ⟨w.heap.size, 2, none⟩ = some (.slice A2 n2 c2) := HX0.out.at 2 _ rfl
      have s0 : w0.cell? ⟨w.heap.size + 1, 0, none⟩ = some (.int .i64 a1) := HA0.out.at 0 _ rfl
      have s1 : w0.cell? ⟨w.heap.size + 1, 1, none⟩ = some (.int .i64 a2) := HA0.out.at 1 _ rfl
      have s2 : w0.cell? ⟨w.heap.size + 1, 2, none⟩ = some (.int .i64 a3) := HA0.out.at 2 _ rfl
      have s3 : w0.cell? ⟨w.heap.size + 1, 3, none⟩ = some (.int .i64 a4) := HA0.out.at 3 _ rfl
      have s4 : w0.cell? ⟨w.heap.size + 1, 4, none⟩ = some (.int .i64 q1) := HA0.out.at 4 _ rfl
      have s5 : w0.cell? ⟨w.heap.size + 1, 5, none⟩ = some (.int .i64 q2) := HA0.out.at 5 _ rfl
      have s6 : w0.cell? ⟨w.heap.size + 1, 6, none⟩ = some (.int .i64 q3) := HA0.out.at 6 _ rfl
      have s7 : w0.cell? ⟨w.heap.size + 1, 7, none⟩ = some (.int .i64 q4) := HA0.out.at 7 _ rfl
      have s8 : w0.cell? ⟨w.heap.size + 1, 8, none⟩ = some (.int .i64 q5) := HA0.out.at 8 _ rfl
      have s9 : w0.cell? ⟨w.heap.size + 1, 9, none⟩ = some (.int .i64 q6) := HA0.out.at 9 _ rfl
      have s10 : w0.cell? ⟨w.heap.size + 1, 10, none⟩ = some (.bool q7) := HA0.out.at 10 _ rfl
      go_wp2_with (go_at_call 28; ((with_reducible refine (CC _ HG0.out).mono ?_); rintro e w1 ⟨B1, B2, d1, d2, rfl, hb, hg⟩; have HB1 := Lib.hid (hb.mono hsz); have HG1 := Lib.hid (grew_trans HG0.out hg); have HZ1 := Lib.hid (HZ0.out.keep hg); have hs1 := HZ1.out.lt; have y0 : w1.cell? ⟨w.heap.size + 1 + 1, 0, none⟩ = some (.int .i64 0) := HZ1.out.at 0 _ rfl; have f0 : w1.frozen? ⟨w.heap.size + 1 + 1, 0, none⟩ = false := HZ1.out.fr 0 (by decide); have y1 : w1.cell? ⟨w.heap.size + 1 + 1, 1, none⟩ = some (.slice none 0 0) := HZ1.out.at 1 _ rfl; have f1 : w1.frozen? ⟨w.heap.size + 1 + 1, 1, none⟩ = false := HZ1.out.fr 1 (by decide); have y2 : w1.cell? ⟨w.heap.size + 1 + 1, 2, none⟩ = some (.slice none 0 0) := HZ1.out.at 2 _ rfl; have f2 : w1.frozen? ⟨w.heap.size + 1 + 1, 2, none⟩ = false := HZ1.out.fr 2 (by decide); clear hb hg CC; clear x0 x1 x2 s0 s1 s2 s3 s4 s5 s6 s7 s8 s9 s10))
      have HP := (HZ1.out.all [.int .i64 ex, .slice B1 el.length d1, .slice B2 ep.length d2] rfl).keep (grew_alloc (putC w1 (w.heap.size + 1 + 1) 0 [.int .i64 ex, .slice B1 el.length d1, .slice B2 ep.length d2]) #[.int .i64 ex, .slice B1 el.length d1, .slice B2 ep.length d2] 25)
      have HGP := grew_trans (grew_put (w := w) (w.heap.size + 1 + 1) (by omega) [.int .i64 ex, .slice B1 el.length d1, .slice B2 ep.length d2] 0 _ HG1.out) (grew_alloc (putC w1 (w.heap.size + 1 + 1) 0 [.int .i64 ex, .slice B1 el.length d1, .slice B2 ep.length d2]) #[.int .i64 ex, .slice B1 el.length d1, .slice B2 ep.length d2] 25)
      have HBP := (HB1.out.put (b2 := w.heap.size + 1 + 1) (by omega) [.int .i64 ex, .slice B1 el.length d1, .slice B2 ep.length d2]).keep (grew_alloc (putC w1 (w.heap.size + 1 + 1) 0 [.int .i64 ex, .slice B1 el.length d1, .slice B2 ep.length d2]) #[.int .i64 ex, .slice B1 el.length d1, .slice B2 ep.length d2] 25)
      change bodyPost _ _ _ _ _ ((putC w1 (w.heap.size + 1 + 1) 0 [.int .i64 ex, .slice B1 el.length d1, .slice B2 ep.length d2]).alloc (.cells #[.int .i64 ex, .slice B1 el.length d1, .slice B2 ep.length d2] 25))
      clear y0 y1 y2 f0 f1 f2
      generalize ((putC w1 (w.heap.size + 1 + 1) 0 [.int .i64 ex, .slice B1 el.length d1, .slice B2 ep.length d2]).alloc (.cells #[.int .i64 ex, .slice B1 el.length d1, .slice B2 ep.length d2] 25)) = w9 at *
      have z0 : w9.cell? ⟨w.heap.size + 1 + 1, 0, none⟩ = _ := HP.at 0 _ rfl
      have z1 : w9.cell? ⟨w.heap.size + 1 + 1, 1, none⟩ = _ := HP.at 1 _ rfl
      have z2 : w9.cell? ⟨w.heap.size + 1 + 1, 2, none⟩ = _ := HP.at 2 _ rfl
      refine bodyPost_ret (v := .tuple #[.agg #[.int .i64 ex, .slice B1 el.length d1, .slice B2 ep.length d2], .int .i64 ee]) (by simp [results, Try.results49, go_sem, z0, z1, z2]) rfl ?_
      exact ⟨B1, B2, d1, d2, rfl, HBP.mono (by omega), HGP⟩
    · by_cases k5 : kind13 a = 5
      · have CC := fun w' (g : Grew w w') => clear_any b A1 A2 n1 n2 c1 c2 w' (h.keep g) (by omega)
        have hE : doE b a = 0 := by unfold doE; rw [if_neg k3, if_neg k4, if_pos k5]
        have hB : doB b a = clearB b := by unfold doB; rw [if_neg k3, if_neg k4, if_pos k5]
        rw [hE, hB]
        unfold BookP at CC
        rw [HKI.out] at k3 k4 k5
        obtain ⟨⟨a1, a2, a3, a4⟩, ⟨⟨q1, q2, q3, q4, q5, q6⟩, q7⟩⟩ := a
        clear HPP HKI hE hB h
        dsimp only [vBk, vAc13, vTr] at *
        generalize clearB b = eb at *
        obtain ⟨ex, el, ep⟩ := eb
        dsimp only at CC
        generalize b.1 = nx at *
        have HX0 : Hid (OwnC (((w.alloc (.cells #[.int .i64 nx, .slice A1 n1 c1, .slice A2 n2 c2] 25)).alloc (.cells #[.int .i64 a1, .int .i64 a2, .int .i64 a3, .int .i64 a4, .int .i64 q1, .int .i64 q2, .int .i64 q3, .int .i64 q4, .int .i64 q5, .int .i64 q6, .bool q7] 82)).alloc (.cells #[.int .i64 0, .slice none 0 0, .slice none 0 0] 25)) w.heap.size [.int .i64 nx, .slice A1 n1 c1, .slice A2 n2 c2]) := ((OwnC.new w [.int .i64 nx, .slice A1 n1 c1, .slice A2 n2 c2] _ _ rfl).keep (grew_alloc _ _ _)).keep (grew_alloc _ _ _)
        have HA0 : Hid (OwnC (((w.alloc (.cells #[.int .i64 nx, .slice A1 n1 c1, .slice A2 n2 c2] 25)).alloc (.cells #[.int .i64 a1, .int .i64 a2, .int .i64 a3, .int .i64 a4, .int .i64 q1, .int .i64 q2, .int .i64 q3, .int .i64 q4, .int .i64 q5, .int .i64 q6, .bool q7] 82)).alloc (.cells #[.int .i64 0, .slice none 0 0, .slice none 0 0] 25)) (w.heap.size + 1) [.int .i64 a1, .int .i64 a2, .int .i64 a3, .int .i64 a4, .int .i64 q1, .int .i64 q2, .int .i64 q3, .int .i64 q4, .int .i64 q5, .int .i64 q6, .bool q7]) := (OwnC.new _ [.int .i64 a1, .int .i64 a2, .int .i64 a3, .int .i64 a4, .int .i64 q1, .int .i64 q2, .int .i64 q3, .int .i64 q4, .int .i64 q5, .int .i64 q6, .bool q7] _ _ (by simp)).keep (grew_alloc _ _ _)
        have HZ0 : Hid (OwnC (((w.alloc (.cells #[.int .i64 nx, .slice A1 n1 c1, .slice A2 n2 c2] 25)).alloc (.cells #[.int .i64 a1, .int .i64 a2, .int .i64 a3, .int .i64 a4, .int .i64 q1, .int .i64 q2, .int .i64 q3, .int .i64 q4, .int .i64 q5, .int .i64 q6, .bool q7] 82)).alloc (.cells #[.int .i64 0, .slice none 0 0, .slice none 0 0] 25)) (w.heap.size + 1 + 1) [.int .i64 0, .slice none 0 0, .slice none 0 0]) := OwnC.new _ [.int .i64 0, .slice none 0 0, .slice none 0 0] _ _ (by simp)
        have HG0 : Hid (Grew w (((w.alloc (.cells #[.int .i64 nx, .slice A1 n1 c1, .slice A2 n2 c2] 25)).alloc (.cells #[.int .i64 a1, .int .i64 a2, .int .i64 a3, .int .i64 a4, .int .i64 q1, .int .i64 q2, .int .i64 q3, .int .i64 q4, .int .i64 q5, .int .i64 q6, .bool q7] 82)).alloc (.cells #[.int .i64 0, .slice none 0 0, .slice none 0 0] 25))) := grew_trans (grew_trans (grew_alloc _ _ _) (grew_alloc _ _ _)) (grew_alloc _ _ _)
        have d3 : ((IntKind.u64.wrap a1).tmod 6 == 3) = false := by simpa using k3
        have d4 : ((IntKind.u64.wrap a1).tmod 6 == 4) = false := by simpa using k4
        have d5 : ((IntKind.u64.wrap a1).tmod 6 == 5) = true := by simpa using k5
        go_enter Try.func49, Try.ntmps49
        go_upto_region 1 with fail
        generalize ((w.alloc (.cells #[.int .i64 nx, .slice A1 n1 c1, .slice A2 n2 c2] 25)).alloc (.cells #[.int .i64 a1, .int .i64 a2, .int .i64 a3, .int .i64 a4, .int .i64 q1, .int .i64 q2, .int .i64 q3, .int .i64 q4, .int .i64 q5, .int .i64 q6, .bool q7] 82)).alloc (.cells #[.int .i64 0, .slice none 0 0, .slice none 0 0] 25) = w0 at *
        have hsz : w.heap.size + 1 + 1 < w0.heap.size := HZ0.out.lt
        have x0 : w0.cell? ⟨w.heap.size, 0, none⟩ = some (.int .i64 nx) := HX0.out.at 0 _ rfl
        have x1 : w0.cell? ⟨w.heap.size, 1, none⟩ = some (.slice A1 n1 c1) := HX0.out.at 1 _ rfl
        have x2 : w0.cell? ⟨w.heap.size, 2, none⟩ = some (.slice A2 n2 c2) := HX0.out.at 2 _ rfl
        have s0 : w0.cell? ⟨w.heap.size + 1, 0, none⟩ = some (.int .i64 a1) := HA0.out.at 0 _ rfl
        have s1 : w0.cell? ⟨w.heap.size + 1, 1, none⟩ = some (.int .i64 a2) := HA0.out.at 1 _ rfl
        have s2 : w0.cell? ⟨w.heap.size + 1, 2, none⟩ = some (.int .i64 a3) := HA0.out.at 2 _ rfl
        have s3 : w0.cell? ⟨w.heap.size + 1, 3, none⟩ = some (.int .i64 a4) := HA0.out.at 3 _ rfl
        have s4 : w0.cell? ⟨w.heap.size + 1, 4, none⟩ = some (.int .i64 q1) := HA0.out.at 4 _ rfl
        have s5 : w0.cell? ⟨w.heap.size + 1, 5, none⟩ = some (.int .i64 q2) := HA0.out.at 5 _ rfl
        have s6 : w0.cell? ⟨w.heap.size + 1, 6, none⟩ = some (.int .i64 q3) := HA0.out.at 6 _ rfl
        have s7 : w0.cell? ⟨w.heap.size + 1, 7, none⟩ = some (.int .i64 q4) := HA0.out.at 7 _ rfl
        have s8 : w0.cell? ⟨w.heap.size + 1, 8, none⟩ = some (.int .i64 q5) := HA0.out.at 8 _ rfl
        have s9 : w0.cell? ⟨w.heap.size + 1, 9, none⟩ = some (.int .i64 q6) := HA0.out.at 9 _ rfl
        have s10 : w0.cell? ⟨w.heap.size + 1, 10, none⟩ = some (.bool q7) := HA0.out.at 10 _ rfl
        go_wp2_with (go_at_call 22; ((with_reducible refine (CC _ HG0.out).mono ?_); rintro e w1 ⟨B1, B2, d1, d2, rfl, hb, hg⟩; have HB1 := Lib.hid (hb.mono hsz); have HG1 := Lib.hid (grew_trans HG0.out hg); have HZ1 := Lib.hid (HZ0.out.keep hg); have hs1 := HZ1.out.lt; have y0 : w1.cell? ⟨w.heap.size + 1 + 1, 0, none⟩ = some (.int .i64 0) := HZ1.out.at 0 _ rfl; have f0 : w1.frozen? ⟨w.heap.size + 1 + 1, 0, none⟩ = false := HZ1.out.fr 0 (by decide); have y1 : w1.cell? ⟨w.heap.size + 1 + 1, 1, none⟩ = some (.slice none 0 0) := HZ1.out.at 1 _ rfl; have f1 : w1.frozen? ⟨w.heap.size + 1 + 1, 1, none⟩ = false := HZ1.out.fr 1 (by decide); have y2 : w1.cell? ⟨w.heap.size + 1 + 1, 2, none⟩ = some (.slice none 0 0) := HZ1.out.at 2 _ rfl; have f2 : w1.frozen? ⟨w.heap.size + 1 + 1, 2, none⟩ = false := HZ1.out.fr 2 (by decide); clear hb hg CC; clear x0 x1 x2 s0 s1 s2 s3 s4 s5 s6 s7 s8 s9 s10))
        have HP := (HZ1.out.all [.int .i64 ex, .slice B1 el.length d1, .slice B2 ep.length d2] rfl)
        have HGP := grew_put (w := w) (w.heap.size + 1 + 1) (by omega) [.int .i64 ex, .slice B1 el.length d1, .slice B2 ep.length d2] 0 _ HG1.out
        have HBP := (HB1.out.put (b2 := w.heap.size + 1 + 1) (by omega) [.int .i64 ex, .slice B1 el.length d1, .slice B2 ep.length d2])
        change bodyPost _ _ _ _ _ (putC w1 (w.heap.size + 1 + 1) 0 [.int .i64 ex, .slice B1 el.length d1, .slice B2 ep.length d2])
        clear y0 y1 y2 f0 f1 f2
        generalize (putC w1 (w.heap.size + 1 + 1) 0 [.int .i64 ex, .slice B1 el.length d1, .slice B2 ep.length d2]) = w9 at *
        have z0 : w9.cell? ⟨w.heap.size + 1 + 1, 0, none⟩ = _ := HP.at 0 _ rfl
        have z1 : w9.cell? ⟨w.heap.size + 1 + 1, 1, none⟩ = _ := HP.at 1 _ rfl
        have z2 : w9.cell? ⟨w.heap.size + 1 + 1, 2, none⟩ = _ := HP.at 2 _ rfl
        refine bodyPost_ret (v := .tuple #[.agg #[.int .i64 ex, .slice B1 el.length d1, .slice B2 ep.length d2], .int .i64 0]) (by simp [results, Try.results49, go_sem, z0, z1, z2]) rfl ?_
        exact ⟨B1, B2, d1, d2, rfl, HBP.mono (by omega), HGP⟩
      · have CC := fun w' (g : Grew w w') => enter_any b a.2 A1 A2 n1 n2 c1 c2 w' (h.keep g) hn
        have hE : doE b a = enterE b a.2 := by unfold doE; rw [if_neg k3, if_neg k4, if_neg k5]
        have hB : doB b a = enterB b a.2 := by unfold doB; rw [if_neg k3, if_neg k4, if_neg k5]
        rw [hE, hB]
        unfold BookN at CC
        rw [HKI.out] at k3 k4 k5
        obtain ⟨⟨a1, a2, a3, a4⟩, ⟨⟨q1, q2, q3, q4, q5, q6⟩, q7⟩⟩ := a
        clear HPP HKI hE hB h
        dsimp only [vBk, vAc13, vTr] at *
        generalize enterE b ((q1, q2, q3, q4, q5, q6), q7) = ee at *
        generalize enterN b ((q1, q2, q3, q4, q5, q6), q7) = en at *
        generalize enterB b ((q1, q2, q3, q4, q5, q6), q7) = eb at *
        obtain ⟨ex, el, ep⟩ := eb
        dsimp only at CC
        generalize b.1 = nx at *
        have HX0 : Hid (OwnC (((w.alloc (.cells #[.int .i64 nx, .slice A1 n1 c1, .slice A2 n2 c2] 25)).alloc (.cells #[.int .i64 a1, .int .i64 a2, .int .i64 a3, .int .i64 a4, .int .i64 q1, .int .i64 q2, .int .i64 q3, .int .i64 q4, .int .i64 q5, .int .i64 q6, .bool q7] 82)).alloc (.cells #[.int .i64 0, .slice none 0 0, .slice none 0 0] 25)) w.heap.size [.int .i64 nx, .slice A1 n1 c1, .slice A2 n2 c2]) := ((OwnC.new w [.int .i64 nx, .slice A1 n1 c1, .slice A2 n2 c2] _ _ rfl).keep (grew_alloc _ _ _)).keep (grew_alloc _ _ _)
        have HA0 : Hid (OwnC (((w.alloc (.cells #[.int .i64 nx, .slice A1 n1 c1, .slice A2 n2 c2] 25)).alloc (.cells #[.int .i64 a1, .int .i64 a2, .int .i64 a3, .int .i64 a4, .int .i64 q1, .int .i64 q2, .int .i64 q3, .int .i64 q4, .int .i64 q5, .int .i64 q6, .bool q7] 82)).alloc (.cells #[.int .i64 0, .slice none 0 0, .slice none 0 0] 25)) (w.heap.size + 1) [.int .i64 a1, .int .i64 a2, .int .i64 a3, .int .i64 a4, .int .i64 q1, .int .i64 q2, .int .i64 q3, .int .i64 q4, .int .i64 q5, .int .i64 q6, .bool q7]) := (OwnC.new _ [.int .i64 a1, .int .i64 a2, .int .i64 a3, .int .i64 a4, .int .i64 q1, .int .i64 q2, .int .i64 q3, .int .i64 q4, .int .i64 q5, .int .i64 q6, .bool q7] _ _ (by simp)).keep (grew_alloc _ _ _)
        have HZ0 : Hid (OwnC (((w.alloc (.cells #[.int .i64 nx, .slice A1 n1 c1, .slice A2 n2 c2] 25)).alloc (.cells #[.int .i64 a1, .int .i64 a2, .int .i64 a3, .int .i64 a4, .int .i64 q1, .int .i64 q2, .int .i64 q3, .int .i64 q4, .int .i64 q5, .int .i64 q6, .bool q7] 82)).alloc (.cells #[.int .i64 0, .slice none 0 0, .slice none 0 0] 25)) (w.heap.size + 1 + 1) [.int .i64 0, .slice none 0 0, .slice none 0 0]) := OwnC.new _ [.int .i64 0, .slice none 0 0, .slice none 0 0] _ _ (by simp)
        have HG0 : Hid (Grew w (((w.alloc (.cells #[.int .i64 nx, .slice A1 n1 c1, .slice A2 n2 c2] 25)).alloc (.cells #[.int .i64 a1, .int .i64 a2, .int .i64 a3, .int .i64 a4, .int .i64 q1, .int .i64 q2, .int .i64 q3, .int .i64 q4, .int .i64 q5, .int .i64 q6, .bool q7] 82)).alloc (.cells #[.int .i64 0, .slice none 0 0, .slice none 0 0] 25))) := grew_trans (grew_trans (grew_alloc _ _ _) (grew_alloc _ _ _)) (grew_alloc _ _ _)
        have d3 : ((IntKind.u64.wrap a1).tmod 6 == 3) = false := by simpa using k3
        have d4 : ((IntKind.u64.wrap a1).tmod 6 == 4) = false := by simpa using k4
        have d5 : ((IntKind.u64.wrap a1).tmod 6 == 5) = false := by simpa using k5
        go_enter Try.func49, Try.ntmps49
        go_upto_region 1 with fail
        generalize ((w.alloc (.cells #[.int .i64 nx, .slice A1 n1 c1, .slice A2 n2 c2] 25)).alloc (.cells #[.int .i64 a1, .int .i64 a2, .int .i64 a3, .int .i64 a4, .int .i64 q1, .int .i64 q2, .int .i64 q3, .int .i64 q4, .int .i64 q5, .int .i64 q6, .bool q7] 82)).alloc (.cells #[.int .i64 0, .slice none 0 0, .slice none 0 0] 25) = w0 at *
        have hsz : w.heap.size + 1 + 1 < w0.heap.size := HZ0.out.lt
        have x0 : w0.cell? ⟨w.heap.size, 0, none⟩ = some (.int .i64 nx) := HX0.out.at 0 _ rfl
        have x1 : w0.cell? ⟨w.heap.size, 1, none⟩ = some (.slice A1 n1 c1) := HX0.out.at 1 _ rfl
        have x2 : w0.cell? ⟨w.heap.size, 2, none⟩ = some (.slice A2 n2 c2) := HX0.out.at 2 _ rfl
        have s0 : w0.cell? ⟨w.heap.size + 1, 0, none⟩ = some (.int .i64 a1) := HA0.out.at 0 _ rfl
        have s1 : w0.cell? ⟨w.heap.size + 1, 1, none⟩ = some (.int .i64 a2) := HA0.out.at 1 _ rfl
        have s2 : w0.cell? ⟨w.heap.size + 1, 2, none⟩ = some (.int .i64 a3) := HA0.out.at 2 _ rfl
        have s3 : w0.cell? ⟨w.heap.size + 1, 3, none⟩ = some (.int .i64 a4) := HA0.out.at 3 _ rfl
        have s4 : w0.cell? ⟨w.heap.size + 1, 4, none⟩ = some (.int .i64 q1) := HA0.out.at 4 _ rfl
        have s5 : w0.cell? ⟨w.heap.size + 1, 5, none⟩ = some (.int .i64 q2) := HA0.out.at 5 _ rfl
        have s6 : w0.cell? ⟨w.heap.size + 1, 6, none⟩ = some (.int .i64 q3) := HA0.out.at 6 _ rfl
        have s7 : w0.cell? ⟨w.heap.size + 1, 7, none⟩ = some (.int .i64 q4) := HA0.out.at 7 _ rfl
        have s8 : w0.cell? ⟨w.heap.size + 1, 8, none⟩ = some (.int .i64 q5) := HA0.out.at 8 _ rfl
        have s9 : w0.cell? ⟨w.heap.size + 1, 9, none⟩ = some (.int .i64 q6) := HA0.out.at 9 _ rfl
        have s10 : w0.cell? ⟨w.heap.size + 1, 10, none⟩ = some (.bool q7) := HA0.out.at 10 _ rfl
        go_wp2_with (go_at_call 25; ((with_reducible refine (CC _ HG0.out).mono ?_); rintro e w1 ⟨B1, B2, d1, d2, rfl, hb, hg⟩; have HB1 := Lib.hid (hb.mono hsz); have HG1 := Lib.hid (grew_trans HG0.out hg); have HZ1 := Lib.hid (HZ0.out.keep hg); have hs1 := HZ1.out.lt; have y0 : w1.cell? ⟨w.heap.size + 1 + 1, 0, none⟩ = some (.int .i64 0) := HZ1.out.at 0 _ rfl; have f0 : w1.frozen? ⟨w.heap.size + 1 + 1, 0, none⟩ = false := HZ1.out.fr 0 (by decide); have y1 : w1.cell? ⟨w.heap.size + 1 + 1, 1, none⟩ = some (.slice none 0 0) := HZ1.out.at 1 _ rfl; have f1 : w1.frozen? ⟨w.heap.size + 1 + 1, 1, none⟩ = false := HZ1.out.fr 1 (by decide); have y2 : w1.cell? ⟨w.heap.size + 1 + 1, 2, none⟩ = some (.slice none 0 0) := HZ1.out.at 2 _ rfl; have f2 : w1.frozen? ⟨w.heap.size + 1 + 1, 2, none⟩ = false := HZ1.out.fr 2 (by decide); clear hb hg CC; clear x0 x1 x2 s0 s1 s2 s3 s4 s5 s6 s7 s8 s9 s10))
        have HP := (HZ1.out.all [.int .i64 ex, .slice B1 el.length d1, .slice B2 ep.length d2] rfl).keep (grew_alloc (putC w1 (w.heap.size + 1 + 1) 0 [.int .i64 ex, .slice B1 el.length d1, .slice B2 ep.length d2]) #[.int .i64 ex, .slice B1 el.length d1, .slice B2 ep.length d2] 25)
        have HGP := grew_trans (grew_put (w := w) (w.heap.size + 1 + 1) (by omega) [.int .i64 ex, .slice B1 el.length d1, .slice B2 ep.length d2] 0 _ HG1.out) (grew_alloc (putC w1 (w.heap.size + 1 + 1) 0 [.int .i64 ex, .slice B1 el.length d1, .slice B2 ep.length d2]) #[.int .i64 ex, .slice B1 el.length d1, .slice B2 ep.length d2] 25)
        have HBP := (HB1.out.put (b2 := w.heap.size + 1 + 1) (by omega) [.int .i64 ex, .slice B1 el.length d1, .slice B2 ep.length d2]).keep (grew_alloc (putC w1 (w.heap.size + 1 + 1) 0 [.int .i64 ex, .slice B1 el.length d1, .slice B2 ep.length d2]) #[.int .i64 ex, .slice B1 el.length d1, .slice B2 ep.length d2] 25)
        change bodyPost _ _ _ _ _ ((putC w1 (w.heap.size + 1 + 1) 0 [.int .i64 ex, .slice B1 el.length d1, .slice B2 ep.length d2]).alloc (.cells #[.int .i64 ex, .slice B1 el.length d1, .slice B2 ep.length d2] 25))
        clear y0 y1 y2 f0 f1 f2
        generalize ((putC w1 (w.heap.size + 1 + 1) 0 [.int .i64 ex, .slice B1 el.length d1, .slice B2 ep.length d2]).alloc (.cells #[.int .i64 ex, .slice B1 el.length d1, .slice B2 ep.length d2] 25)) = w9 at *
        have z0 : w9.cell? ⟨w.heap.size + 1 + 1, 0, none⟩ = _ := HP.at 0 _ rfl
        have z1 : w9.cell? ⟨w.heap.size + 1 + 1, 1, none⟩ = _ := HP.at 1 _ rfl
        have z2 : w9.cell? ⟨w.heap.size + 1 + 1, 2, none⟩ = _ := HP.at 2 _ rfl
        refine bodyPost_ret (v := .tuple #[.agg #[.int .i64 ex, .slice B1 el.length d1, .slice B2 ep.length d2], .int .i64 ee]) (by simp [results, Try.results49, go_sem, z0, z1, z2]) rfl ?_
        exact ⟨B1, B2, d1, d2, rfl, HBP.mono (by omega), HGP⟩

theorem wakes13_facts : enterE bk0 ((0, 1, 2, 3, 5, 10), false) = 0 ∧ enterN bk0 ((0, 1, 2, 3, 5, 10), false) = 1 ∧ (enterB bk0 ((0, 1, 2, 3, 5, 10), false)).2.2.length = 2 ∧ (enterB bk0 ((0, 1, 2, 3, 5, 10), false)).2.1.length = 1
    ∧ cancelE (enterB bk0 ((0, 1, 2, 3, 5, 10), false)) 1 = 0 ∧ (cancelB (enterB bk0 ((0, 1, 2, 3, 5, 10), false)) 1).2.2.length = 0 := by decide +kernel
set_option maxRecDepth 100000 in
set_option maxHeartbeats 2000000 in
theorem wakes13_any (w : World) : Calls Try.prog 23 #[] w fun e w' => e = .returned (.bool true) ∧ Grew w w' := by
  obtain ⟨f1, f2, f3, f4, f5, f6⟩ := wakes13_facts
  have CE := fun w' => enter_any bk0 ((0, 1, 2, 3, 5, 10), false) none none 0 0 0 0 w' (OwnB.nil w' 0).in ⟨by omega, by omega⟩
  unfold BookN at CE
  have CC := fun (A1 A2 : Option Addr) (c1 c2 : Nat) w' (h : InB w' (enterB bk0 ((0, 1, 2, 3, 5, 10), false)) A1 A2 1 2 c1 c2) => cancel_any (enterB bk0 ((0, 1, 2, 3, 5, 10), false)) 1 A1 A2 1 2 c1 c2 w' h ⟨by omega, by omega⟩
  unfold BookE at CC
  rw [f1, f2] at CE
  rw [f5] at CC
  clear f1 f2 f5
  generalize enterB bk0 ((0, 1, 2, 3, 5, 10), false) = eb at *
  generalize cancelB eb 1 = cb at *
  obtain ⟨ex, el, ep⟩ := eb
  obtain ⟨cx, cl, cp⟩ := cb
  dsimp only at f3 f4 f6
  dsimp only [vBk, vTr] at CE CC
  rw [f3, f4] at CE
  rw [f6] at CC
  go_enter Try.func23, Try.ntmps23
  go_wp2_with (first
    | (go_at_call 25; ((with_reducible refine (CE _).mono ?_); rintro e w1 ⟨A1, A2, c1, c2, rfl, hb, hg⟩; have hi := hb.in; dsimp only at hi; rw [f3, f4] at hi; have HB1 := Lib.hid (hi.keep (grew_alloc w1 #[.int .i64 ex, .slice A1 1 c1, .slice A2 2 c2] 25)); clear hi; have HG1 := Lib.hid (grew_trans hg (grew_alloc w1 #[.int .i64 ex, .slice A1 1 c1, .slice A2 2 c2] 25)); have HX1 := Lib.hid (OwnC.new w1 [.int .i64 ex, .slice A1 1 c1, .slice A2 2 c2] 25 _ rfl); clear hb hg CE))
    | (go_at_call 26; ((with_reducible refine (CC _ _ _ _ _ HB1.out).mono ?_); rintro e w2 ⟨B1, B2, d1, d2, rfl, hb, hg⟩; have HX2 := Lib.hid (HX1.out.keep hg); have HG2 := Lib.hid (grew_trans HG1.out hg); have hs2 := HX2.out.lt; have x2 : w2.cell? ⟨w1.heap.size, 2, none⟩ = some (.slice A2 2 c2) := HX2.out.at 2 _ rfl; clear hb hg CC)))
  go_ret
  exact ⟨rfl, grew_trans HG2.out (grew_alloc _ _ _)⟩
end Go.Proofs.Ytkbmiajgmnfpfaa.NumK
