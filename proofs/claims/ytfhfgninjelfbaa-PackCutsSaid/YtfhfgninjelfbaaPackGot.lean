/- Stage 4's got: what is read next, is it this item? -/
import Derived.Test.YtfhfgninjelfbaaPackF
import Derived.Test.YtfhfgninjelfbaaPackH
import Derived.Test.YtfhfgninjelfbaaPackFr
import Derived.Deep.CutBlock
import Derived.Deep.RegionHeld3
import Derived.Deep.DrawnRows
namespace Go.Proofs.Ytfhfgninjelfbaa.NumK
open Go.RowKit

def gotL : List Int → RS → Bool × RS
  | [], s => (true, s)
  | n :: l, s => if (rI s).1 = n then gotL l (rI s).2 else (false, (rI s).2)
def gotS (x : It) (s : RS) : Bool × RS :=
  if kd x.K = 0 then gotL x.L s else if kd x.K = 1 then (decide ((rM s).1 = x.B), (rM s).2) else (decide ((rT s).1 = x.T), (rT s).2)

theorem gotL_drop {l : List Int} {k : Nat} (hk : k < l.length) (s : RS) : gotL (l.drop k) s = if (rI s).1 = l.getD k 0 then gotL (l.drop (k + 1)) (rI s).2 else (false, (rI s).2) := by
  rw [List.drop_eq_getElem_cons hk, gotL]
  simp [List.getD, hk]

set_option maxRecDepth 100000 in
set_option maxHeartbeats 2000000 in
theorem got_any (p : Nat) (s : RS) (x : It) (A1 : Option Addr) (c1 : Nat) (A2 : Option Addr) (c2 : Nat) (w : World) (hR : RD w p s) (hp : Parts w x A1 c1 A2 c2) (hq1 : 0 < x.n1 → ∀ a, A1 = some a → a.block ≠ p) (hq2 : 0 < x.n2 → ∀ a, A2 = some a → a.block ≠ p) :
    Calls Try.prog 27 #[.pointer (some ⟨p, 0, none⟩), .agg #[.int .i64 x.K, .slice A1 x.n1 c1, .bool x.B, .slice A2 x.n2 c2]] w (RPost p (.bool (gotS x s).1) (gotS x s).2 w) := by
  have hU : ∃ U : Int, U = IntKind.u64.wrap x.K := ⟨_, rfl⟩
  obtain ⟨U, hU⟩ := hU
  have hU0 : 0 ≤ U := by rw [hU, IntKind.wrap_u64]; omega
  have HK : Hid (kd x.K = U % 3) := by show _ = _; rw [hU]; rfl
  have hKU := hU.symm
  have HP := Lib.hid hp
  have HR := Lib.hid hR
  have hpw := hR.1
  have m1 := hp.le1
  have m2 := hp.le2
  clear hU hp hR
  -- the world behind the box
  have hbox : ∀ t : TypeId, (w.alloc (.cells #[.int .i64 x.K, .slice A1 x.n1 c1, .bool x.B, .slice A2 x.n2 c2] t)).cell? ⟨w.heap.size, 1, none⟩ = some (.slice A1 x.n1 c1) ∧ (w.alloc (.cells #[.int .i64 x.K, .slice A1 x.n1 c1, .bool x.B, .slice A2 x.n2 c2] t)).cell? ⟨w.heap.size, 2, none⟩ = some (.bool x.B) ∧ (w.alloc (.cells #[.int .i64 x.K, .slice A1 x.n1 c1, .bool x.B, .slice A2 x.n2 c2] t)).cell? ⟨w.heap.size, 3, none⟩ = some (.slice A2 x.n2 c2) ∧ w.heap.size < (w.alloc (.cells #[.int .i64 x.K, .slice A1 x.n1 c1, .bool x.B, .slice A2 x.n2 c2] t)).heap.size := fun t => ⟨by simp, by simp, by simp, by simp⟩
  by_cases k0 : U % 3 = 0
  · have HX : Hid (gotS x s = gotL x.L s) := by show _ = _; unfold gotS; rw [if_pos (by rw [HK.out]; exact k0)]
    rw [HX.out]
    have HI := Lib.hid HP.out.ints
    have HQ1 := Lib.hid hq1
    clear HK HP hq1 hq2
    generalize x.K = K at *
    generalize x.n1 = n1 at *
    generalize x.n2 = n2 at *
    generalize x.B = B at *
    go_enter Try.func27, Try.ntmps27
    go_wp2
    obtain ⟨b1, b2, b3, b4⟩ := hbox 33
    have HG0 : Hid (Grew w (w.alloc (.cells #[.int .i64 K, .slice A1 n1 c1, .bool B, .slice A2 n2 c2] 33))) := grew_alloc _ _ _
    clear hbox b2 b3
    generalize w.alloc (.cells #[.int .i64 K, .slice A1 n1 c1, .bool B, .slice A2 n2 c2] 33) = w0 at *
    have hne : w.heap.size ≠ p := by omega
    have HNE := Lib.hid hne
    have HB1 : Hid (w0.cell? ⟨w.heap.size, 1, none⟩ = some (.slice A1 n1 c1) ∧ w.heap.size < w0.heap.size) := ⟨b1, b4⟩
    clear hne b1 b4 k0
    go_loopw [5] (fun v5 wr => ∃ (k : Nat) (s1 : RS), v5 = .int .i64 k ∧ k ≤ n1 ∧ Hid (gotL x.L s = gotL (x.L.drop k) s1) ∧ Hid (RD wr p s1) ∧ Hid (Turn p w0 wr)) (fun v5 _ => n1 - (intOf v5).toNat)
    case atStart => exact ⟨0, s, rfl, Nat.zero_le _, rfl, HR.out.keep HG0.out, Turn.refl _ _⟩
    case round =>
      obtain ⟨k, s1, rfl, hk, HGL, HRD, HT⟩ := hrel
      have d1 : wr.cell? ⟨w.heap.size, 1, none⟩ = some (.slice A1 n1 c1) := (HT.out.cell (p := ⟨w.heap.size, 1, none⟩) HB1.out.2 HNE.out).trans HB1.out.1
      by_cases hlt : k < n1
      · have hi2 := (HI.out.keep HG0.out).2 (by omega)
        obtain ⟨b, o, rfl, hbb, hcc⟩ := hi2
        have hbp : b ≠ p := HQ1.out (by omega) _ rfl
        have d2 : wr.cell? ⟨b, o + k, none⟩ = some (.int .i64 (x.L.getD k 0)) := (HT.out.cell (p := ⟨b, o + k, none⟩) hbb hbp).trans (hcc k hlt)
        have HGD := Lib.hid (gotL_drop (l := x.L) (k := k) (by have := HI.out.1; omega) s1)
        have C1 := Lib.hid (rInt_any p s1 wr.drew (HRD.out.keep (Below.drew (grew_refl _))))
        have hbw : b < wr.heap.size := Nat.lt_of_lt_of_le hbb HT.out.size
        have hxw : w.heap.size < wr.heap.size := Nat.lt_of_lt_of_le HB1.out.2 HT.out.size
        have i0 : (0 : Int) ≤ (k : Int) := by omega
        have i1 : (k : Int) < (n1 : Int) := by omega
        clear hcc
        generalize x.L.getD k 0 = y at *
        generalize (rI s1).1 = v at *
        generalize (rI s1).2 = s2 at *
        by_cases hv : v = y
        · subst hv
          have HN : Hid (gotL x.L s = gotL (x.L.drop (k + 1)) s2) := by show _ = _; rw [HGL.out, HGD.out, if_pos rfl]
          clear HGD
          go_wp2_with fail
          go_region_held3 (fun w' => w'.cell? ⟨w.heap.size, 1, none⟩ = some (.slice (some ⟨b, o, none⟩) n1 c1) ∧ w'.cell? ⟨b, o + k, none⟩ = some (.int .i64 v))
            (first
              | (exact ⟨d1, d2⟩)
              | (exact ⟨(HT2.out.cell (p := ⟨w.heap.size, 1, none⟩) hxw HNE.out).trans d1, (HT2.out.cell (p := ⟨b, o + k, none⟩) hbw hbp).trans d2⟩))
            (first
              | (go_at_call 19; (with_reducible refine C1.out.mono ?_); rintro e w1 ⟨rfl, hr, ht⟩; have HR1 := Lib.hid hr; have HT2 := Lib.hid ht; clear hr ht))
          go_wp2
          go_roundw
          case rel => exact ⟨k + 1, s2, by go_num, by omega, HN, HR1, (HT.out.grew (Below.drew (grew_refl _))).trans HT2.out⟩
          case measure => simp only [intOf]; omega
        · have dv : (v != y) = true := by simpa using hv
          have HN : Hid (gotL x.L s = (false, s2)) := by show _ = _; rw [HGL.out, HGD.out, if_neg hv]
          clear HGD hv
          go_wp2_with fail
          go_region_held3 (fun w' => w'.cell? ⟨w.heap.size, 1, none⟩ = some (.slice (some ⟨b, o, none⟩) n1 c1) ∧ w'.cell? ⟨b, o + k, none⟩ = some (.int .i64 y))
            (first
              | (exact ⟨d1, d2⟩)
              | (exact ⟨(HT2.out.cell (p := ⟨w.heap.size, 1, none⟩) hxw HNE.out).trans d1, (HT2.out.cell (p := ⟨b, o + k, none⟩) hbw hbp).trans d2⟩))
            (first
              | (go_at_call 19; (with_reducible refine C1.out.mono ?_); rintro e w1 ⟨rfl, hr, ht⟩; have HR1 := Lib.hid hr; have HT2 := Lib.hid ht; clear hr ht))
          go_wp2
          go_ret
          exact ⟨by rw [HN.out]; rfl, by rw [HN.out]; exact HR1.out, ((Turn.refl p w).grew HG0.out).trans ((HT.out.grew (Below.drew (grew_refl _))).trans HT2.out)⟩
      · obtain rfl : k = n1 := by omega
        have hE : gotL x.L s = (true, s1) := by rw [HGL.out, List.drop_of_length_le (by have := HI.out.1; omega)]; rfl
        have HE := Lib.hid hE
        clear hE
        go_wp2
        go_ret
        exact ⟨by rw [HE.out]; rfl, by rw [HE.out]; exact HRD.out, ((Turn.refl p w).grew HG0.out).trans HT.out⟩
  · by_cases k1 : U % 3 = 1
    · have HX : Hid (gotS x s = (decide ((rM s).1 = x.B), (rM s).2)) := by show _ = _; unfold gotS; rw [if_neg (by rw [HK.out]; exact k0), if_pos (by rw [HK.out]; exact k1)]
      rw [HX.out]
      have HC := Lib.hid (fun w' (g : Grew w w') => rMark_any p s w' (HR.out.keep g))
      clear HK HP hq1 hq2
      generalize x.K = K at *
      generalize x.n1 = n1 at *
      generalize x.n2 = n2 at *
      generalize x.B = B at *
      generalize (rM s).1 = v at *
      generalize (rM s).2 = s2 at *
      go_enter Try.func27, Try.ntmps27
      go_wp2
      obtain ⟨b1, b2, b3, b4⟩ := hbox 33
      have HG0 : Hid (Grew w (w.alloc (.cells #[.int .i64 K, .slice A1 n1 c1, .bool B, .slice A2 n2 c2] 33))) := grew_alloc _ _ _
      clear hbox b1 b3
      generalize w.alloc (.cells #[.int .i64 K, .slice A1 n1 c1, .bool B, .slice A2 n2 c2] 33) = w0 at *
      have hne : w.heap.size ≠ p := by omega
      have HNE := Lib.hid hne
      have C1 := Lib.hid (HC.out w0.drew (Below.drew HG0.out))
      clear hne HC k0 k1
      go_region_held3 (fun w' => w'.cell? ⟨w.heap.size, 2, none⟩ = some (.bool B))
        (first
          | (exact b2)
          | (exact (HT2.out.cell (p := ⟨w.heap.size, 2, none⟩) b4 HNE.out).trans b2))
        (first
          | (go_at_call 21; (with_reducible refine C1.out.mono ?_); rintro e w1 ⟨rfl, hr, ht⟩; have HR1 := Lib.hid hr; have HT2 := Lib.hid ht; clear hr ht))
      go_wp2
      go_ret
      exact ⟨ret_b (by cases v <;> cases B <;> rfl), HR1.out, ((Turn.refl p w).grew (Below.drew HG0.out)).trans HT2.out⟩
    · have HX : Hid (gotS x s = (decide ((rT s).1 = x.T), (rT s).2)) := by show _ = _; unfold gotS; rw [if_neg (by rw [HK.out]; exact k0), if_neg (by rw [HK.out]; exact k1)]
      rw [HX.out]
      have HC := Lib.hid (fun w' (g : Grew w w') => rText_any p s w' (HR.out.keep g))
      have HTO := Lib.hid (rT_out s)
      have HB2 := Lib.hid HP.out.bys
      have HQ2 := Lib.hid hq2
      clear HK HP hq1 hq2
      generalize x.K = K at *
      generalize x.n1 = n1 at *
      generalize x.n2 = n2 at *
      generalize x.B = B at *
      generalize (rT s).1 = v at *
      generalize (rT s).2 = s2 at *
      go_enter Try.func27, Try.ntmps27
      go_wp2
      obtain ⟨b1, b2, b3, b4⟩ := hbox 33
      have HG0 : Hid (Grew w (w.alloc (.cells #[.int .i64 K, .slice A1 n1 c1, .bool B, .slice A2 n2 c2] 33))) := grew_alloc _ _ _
      clear hbox b1 b2
      generalize w.alloc (.cells #[.int .i64 K, .slice A1 n1 c1, .bool B, .slice A2 n2 c2] 33) = w0 at *
      have hne : w.heap.size ≠ p := by omega
      have HNE := Lib.hid hne
      have C1 := Lib.hid (HC.out w0.drew (Below.drew HG0.out))
      have C2 : Hid (∀ w1 A3 n3 c3, Bys w1 A3 n3 v → Turn p w0.drew w1 → Calls Try.prog 15 #[.slice A3 n3 c3, .slice A2 n2 c2] w1 fun e w' => e = .returned (.bool (decide (v = x.T))) ∧ Grew w1 w') :=
        fun w1 A3 n3 c3 hb ht => keepBytes_any A3 A2 n3 n2 c3 c2 v x.T w1 hb ((HB2.out.keep (Below.drew HG0.out)).turn ht HQ2.out) (by have := hb.1; have := HTO.out; omega) m2
      clear hne HC k0 k1
      go_region_held3 (fun w' => w'.cell? ⟨w.heap.size, 3, none⟩ = some (.slice A2 n2 c2))
        (first
          | (exact b3)
          | (exact (HT2.out.cell (p := ⟨w.heap.size, 3, none⟩) b4 HNE.out).trans b3)
          | (exact (grew_cell HG3.out (p := ⟨w.heap.size, 3, none⟩) (Nat.lt_of_lt_of_le b4 HT2.out.size)).trans ((HT2.out.cell (p := ⟨w.heap.size, 3, none⟩) b4 HNE.out).trans b3)))
        (first
          | (go_at_call 23; (with_reducible refine C1.out.mono ?_); rintro e w1 ⟨A3, n3, c3, rfl, hb3, hf3, hA3, hr, ht⟩; have HR1 := Lib.hid hr; have HT2 := Lib.hid ht; have C3 := Lib.hid (C2.out w1 A3 n3 c3 hb3 ht); clear hb3 hf3 hA3 hr ht)
          | (go_at_call 15; (with_reducible refine C3.out.mono ?_); rintro e w2 ⟨rfl, hg⟩; have HG3 := Lib.hid hg; clear hg))
      go_wp2
      go_ret
      exact ⟨rfl, HR1.out.keep HG3.out, (((Turn.refl p w).grew (Below.drew HG0.out)).trans HT2.out).grew HG3.out⟩
end Go.Proofs.Ytfhfgninjelfbaa.NumK
