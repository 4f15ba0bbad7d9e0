/- A pair of logs: an act on both. -/
import Derived.Test.YthnhhhfjgbgpgaaRLxA
import Derived.Deep.CutBlock
import Derived.Deep.RegionHeld3
namespace Go.Proofs.Ythnhhhfjgbgpgaa.NumK
open Go.RowKit

def StepPost (N : Nat → Prop) (w0 : World) (pb d q : Nat) (s : DS) (e : Ending) (w' : World) : Prop := e = .returned (.bool true) ∧ Hid (∃ s' o, LX N w0 w' pb d q s' o ∧ s'.safe.length = s.safe.length ∧ s'.opn.length ≤ s.opn.length + 400)
def BoxC (w : World) (pb d q lb lr V : Nat) (x : At7) (A2 : Option Addr) (n2 c2 : Nat) (A3 : Option Addr) (n3 c3 : Nat) (A4 : Option Addr) (n4 c4 : Nat) : Prop :=
  PairC w pb (some ⟨lb, 0, none⟩) d (some ⟨lr, 0, none⟩) q ∧ w.cell? ⟨V, 0, none⟩ = some (.int .i64 x.K) ∧ w.cell? ⟨V, 1, none⟩ = some (.int .i64 x.N) ∧ w.cell? ⟨V, 2, none⟩ = some (.slice A2 n2 c2) ∧ w.cell? ⟨V, 3, none⟩ = some (.slice A3 n3 c3) ∧ w.cell? ⟨V, 4, none⟩ = some (.slice A4 n4 c4)
theorem LX.less {N M : Nat → Prop} {w0 w : World} {pb d q : Nat} {s : DS} {o : Option (Nat × Nat × LS)} (h : LX N w0 w pb d q s o) (hM : ∀ k, M k → N k) : LX M w0 w pb d q s o := by
  cases o with
  | none => exact ⟨h.1, h.2.less hM⟩
  | some x => obtain ⟨lb, lr, l⟩ := x; exact ⟨h.1, SX.less h.2 hM⟩
theorem box_mk {N : Nat → Prop} {w0 w : World} {pb d q lb lr : Nat} {P R : World → (Nat → Prop) → Prop} (x : At7) (A2 : Option Addr) (n2 c2 : Nat) (A3 : Option Addr) (n3 c3 : Nat) (A4 : Option Addr) (n4 c4 : Nat) (hN : N pb)
    (hC : PairC w pb (some ⟨lb, 0, none⟩) d (some ⟨lr, 0, none⟩) q) (h : SX N w0 w P R) (hP : Stb P) (hR : Stb R) :
    ∃ M : Nat → Prop, (∀ k, N k → M k) ∧ M pb ∧ M w.heap.size ∧ (∀ k, M k → N k ∨ k = w.heap.size) ∧ SX M w0 (w.alloc (.cells #[.int .i64 x.K, .int .i64 x.N, .slice A2 n2 c2, .slice A3 n3 c3, .slice A4 n4 c4] 41)) P R ∧ ∀ w', Chg (Mine M w0) (w.alloc (.cells #[.int .i64 x.K, .int .i64 x.N, .slice A2 n2 c2, .slice A3 n3 c3, .slice A4 n4 c4] 41)) w' → BoxC w' pb d q lb lr w.heap.size x A2 n2 c2 A3 n3 c3 A4 n4 c4 := by
  have hs : (w.alloc (.cells #[.int .i64 x.K, .int .i64 x.N, .slice A2 n2 c2, .slice A3 n3 c3, .slice A4 n4 c4] 41)).heap.size = w.heap.size + 1 := by simp
  have hg := grew_alloc w #[.int .i64 x.K, .int .i64 x.N, .slice A2 n2 c2, .slice A3 n3 c3, .slice A4 n4 c4] 41
  refine ⟨fun k => N k ∨ k = w.heap.size, fun k hk => Or.inl hk, Or.inl hN, Or.inr rfl, fun k hk => hk, h.besides hP hR hg (fun k hk => hk.imp id fun e => by rw [e, hs]; omega), fun w' g => ?_⟩
  obtain ⟨hra, _⟩ := alloc_range w [.int .i64 x.K, .int .i64 x.N, .slice A2 n2 c2, .slice A3 n3 c3, .slice A4 n4 c4] 41
  have hr := rangeAt_of hra (g.block w.heap.size (by rw [hs]; omega) (fun hm => hm.2 (Or.inr rfl)))
  have g0 := hr 0 _ rfl
  have g1 := hr 1 _ rfl
  have g2 := hr 2 _ rfl
  have g3 := hr 3 _ rfl
  have g4 := hr 4 _ rfl
  simp only [Nat.zero_add] at g0 g1 g2 g3 g4
  exact ⟨(hC.grew hg).of (g.block pb (hC.grew hg).2.2 (fun hm => hm.2 (Or.inl hN))) g.size, g0, g1, g2, g3, g4⟩
theorem stepFin {N M : Nat → Prop} {w0 w' : World} {pb d q : Nat} {s s' : DS} {o : Option (Nat × Nat × LS)} (hM : ∀ k, N k → M k) (h : LX M w0 w' pb d q s' o) (h1 : s'.safe.length = s.safe.length) (h2 : s'.opn.length ≤ s.opn.length + 400) : StepPost N w0 pb d q s (.returned (.bool true)) w' := ⟨rfl, ⟨s', o, h.less hM, h1, h2⟩⟩
theorem after_len (s : DS) (zs : List Int) : (dStart (dCrash s zs)).safe.length = s.safe.length ∧ (dStart (dCrash s zs)).opn = [] := by
  unfold dStart dCrash
  exact ⟨by simp [crashL_len], by simp⟩
set_option maxRecDepth 100000 in
set_option maxHeartbeats 4000000 in
theorem pstep_8 {N : Nat → Prop} {w0 w : World} {pb d q lb lr : Nat} {s : DS} {l : LS} (x : At7) (A2 : Option Addr) (n2 c2 : Nat) (A3 : Option Addr) (n3 c3 : Nat) (A4 : Option Addr) (n4 c4 : Nat) (hI : At7In w0 x A2 A3 A4 n2 c2 n3 c3 n4) (hLt : Light x) (hN : N pb) (hpb : w0.heap.size ≤ pb)
    (hC : PairC w pb (some ⟨lb, 0, none⟩) d (some ⟨lr, 0, none⟩) q) (h : SX N w0 w (PJ lb d s l) (RJ lr q s l)) (ho : s.off = false) (hn : s.opn.length ≤ 400000) (hsl : s.safe.length ≤ 300) (hk : (IntKind.u64.wrap x.K).tmod 10 = 8) :
    Calls Try.prog 8 #[.pointer (some ⟨pb, 0, none⟩), .agg #[.int .i64 x.K, .int .i64 x.N, .slice A2 n2 c2, .slice A3 n3 c3, .slice A4 n4 c4]] w (StepPost N w0 pb d q s) := by
  have HI := Lib.hid hI
  have HLT := Lib.hid hLt
  obtain ⟨M, hle, hmp, hmv, hme, hx1, hbx⟩ := box_mk x A2 n2 c2 A3 n3 c3 A4 n4 c4 hN hC h (stb_PJ _ _ _ _) (stb_RJ _ _ _ _)
  have HX1 := Lib.hid hx1
  have HMP := Lib.hid hmp
  have HBX := Lib.hid hbx
  have HO := Lib.hid ho
  have HN := Lib.hid hn
  have HSL := Lib.hid hsl
  have HLE := Lib.hid hle
  have HMV := Lib.hid hmv
  have HME := Lib.hid hme
  have HPB := Lib.hid hpb
  have hb0 := HBX.out _ (Chg.refl _ _)
  obtain ⟨-, a0, -, -, -, -⟩ := hb0
  clear hLt hN hC h ho hn hsl hpb hI hx1 hmp hbx hle hmv hme
  go_enter Try.func8, Try.ntmps8
  go_upto_region 2 with fail
  generalize w.alloc (.cells #[.int .i64 x.K, .int .i64 x.N, .slice A2 n2 c2, .slice A3 n3 c3, .slice A4 n4 c4] 41) = WB at *
  generalize hV : w.heap.size = V at *
  have CO := Lib.hid (popen_any (N := M) HMP.out HPB.out (HBX.out WB (Chg.refl _ _)).1 HX1.out.toD (by have := HN.out; omega))
  go_wp2_with (go_at_call 7; ((with_reducible refine CO.out.mono ?_); rintro e w1 ⟨rfl, hx, -⟩; have HX2 := hx; clear hx))
  go_ret
  obtain ⟨o, h1, -⟩ := HX2.out
  exact stepFin HLE.out h1 rfl (by omega)

set_option maxRecDepth 100000 in
set_option maxHeartbeats 4000000 in
theorem pstep_7 {N : Nat → Prop} {w0 w : World} {pb d q lb lr : Nat} {s : DS} {l : LS} (x : At7) (A2 : Option Addr) (n2 c2 : Nat) (A3 : Option Addr) (n3 c3 : Nat) (A4 : Option Addr) (n4 c4 : Nat) (hI : At7In w0 x A2 A3 A4 n2 c2 n3 c3 n4) (hLt : Light x) (hN : N pb) (hpb : w0.heap.size ≤ pb)
    (hC : PairC w pb (some ⟨lb, 0, none⟩) d (some ⟨lr, 0, none⟩) q) (h : SX N w0 w (PJ lb d s l) (RJ lr q s l)) (ho : s.off = false) (hn : s.opn.length ≤ 400000) (hsl : s.safe.length ≤ 300) (hk : (IntKind.u64.wrap x.K).tmod 10 = 7) :
    Calls Try.prog 8 #[.pointer (some ⟨pb, 0, none⟩), .agg #[.int .i64 x.K, .int .i64 x.N, .slice A2 n2 c2, .slice A3 n3 c3, .slice A4 n4 c4]] w (StepPost N w0 pb d q s) := by
  have HI := Lib.hid hI
  have HLT := Lib.hid hLt
  obtain ⟨M, hle, hmp, hmv, hme, hx1, hbx⟩ := box_mk x A2 n2 c2 A3 n3 c3 A4 n4 c4 hN hC h (stb_PJ _ _ _ _) (stb_RJ _ _ _ _)
  have HX1 := Lib.hid hx1
  have HMP := Lib.hid hmp
  have HBX := Lib.hid hbx
  have HO := Lib.hid ho
  have HN := Lib.hid hn
  have HSL := Lib.hid hsl
  have HLE := Lib.hid hle
  have HMV := Lib.hid hmv
  have HME := Lib.hid hme
  have HPB := Lib.hid hpb
  have hb0 := HBX.out _ (Chg.refl _ _)
  obtain ⟨-, a0, -, -, -, -⟩ := hb0
  clear hLt hN hC h ho hn hsl hpb hI hx1 hmp hbx hle hmv hme
  go_enter Try.func8, Try.ntmps8
  go_upto_region 2 with fail
  generalize w.alloc (.cells #[.int .i64 x.K, .int .i64 x.N, .slice A2 n2 c2, .slice A3 n3 c3, .slice A4 n4 c4] 41) = WB at *
  generalize hV : w.heap.size = V at *
  have HS0 : Hid (SX M w0 WB.drew (PD d s) (RD q s)) := (HX1.out.toD).grows (stb_PD _ _) (stb_RD _ _) (grew_drew (grew_refl _))
  have K1 := Lib.hid (sx_crashD (stb_RD q s) HS0 A4 n4 c4 x.P HI.out.i4 HI.out.k4 (by have := HN.out; omega))
  obtain ⟨hp0, -, -, -, -, a4⟩ := HBX.out WB.drew (Chg.refl _ _).drew
  obtain ⟨-, b1, -, b3⟩ := hp0.cells
  clear hp0
  go_upto_region 14 with fail
  go_region_held3 (fun w' => w'.cell? ⟨pb, 1, none⟩ = some (.pointer (some ⟨d, 0, none⟩)) ∧ w'.cell? ⟨V, 4, none⟩ = some (.slice A4 n4 c4))
    (first | exact ⟨b1, a4⟩ | exact ⟨z1, z4⟩)
    (first
      | (go_at_call 9; ((with_reducible refine K1.out.mono ?_); rintro e w1 ⟨rfl, hs1, hc1⟩; have HS1 := hs1; have HC1 : Hid (Chg (Mine M w0) WB w1) := (Chg.refl _ _).drew.trans hc1; obtain ⟨hp1, -, -, -, -, z4⟩ := HBX.out w1 HC1.out; obtain ⟨-, z1, -, z3⟩ := hp1.cells; clear hs1 hc1 hp1)))
  clear b1 b3 a4 a0 K1 HS0
  have HS2 : Hid (SX M w0 w1.drew (PD d (dCrash s x.P)) (RD q s)) := HS1.out.grows (stb_PD _ _) (stb_RD _ _) (grew_drew (grew_refl _))
  have K2 := Lib.hid (sx_crashR (stb_PD d (dCrash s x.P)) HS2 A4 n4 c4 x.P HI.out.i4 HI.out.k4 (by have := HN.out; omega))
  go_upto_region 15 with fail
  go_region_held3 (fun w' => w'.cell? ⟨pb, 3, none⟩ = some (.pointer (some ⟨q, 0, none⟩)) ∧ w'.cell? ⟨V, 4, none⟩ = some (.slice A4 n4 c4))
    (first | exact ⟨z3, z4⟩ | exact ⟨y3, y4⟩)
    (first
      | (go_at_call 10; ((with_reducible refine K2.out.mono ?_); rintro e w2 ⟨rfl, hs1, hc1⟩; have HS3 := hs1; have HC2 : Hid (Chg (Mine M w0) WB w2) := HC1.out.trans ((Chg.refl _ _).drew.trans hc1); obtain ⟨hp1, -, -, -, -, y4⟩ := HBX.out w2 HC2.out; obtain ⟨-, y1, -, y3⟩ := hp1.cells; clear hs1 hc1 hp1)))
  clear z1 z3 z4 K2 HS1 HS2
  have hl := after_len s x.P
  have K3 := Lib.hid (sx_startD (stb_RD _ _) HS3 (by show (dCrash s x.P).opn.length ≤ _; unfold dCrash; simp))
  have K4 := Lib.hid (fun w3 (h : Hid (SX M w0 w3 (PD d (dStart (dCrash s x.P))) (RD q (dCrash s x.P)))) => sx_startR (stb_PD _ _) h (by show (dCrash s x.P).opn.length ≤ _; unfold dCrash; simp))
  have K5 := Lib.hid (fun w4 (hp : PairC w4 pb (some ⟨lb, 0, none⟩) d (some ⟨lr, 0, none⟩) q) (h : Hid (SX M w0 w4 (PD d (dStart (dCrash s x.P))) (RD q (dStart (dCrash s x.P))))) => popen_any (N := M) HMP.out HPB.out hp h.out (by rw [hl.2]; simp))
  have HLL : Hid ((dStart (dCrash s x.P)).safe.length = s.safe.length ∧ (dStart (dCrash s x.P)).opn.length ≤ s.opn.length + 400) := ⟨hl.1, by rw [hl.2]; simp⟩
  clear hl
  generalize dStart (dCrash s x.P) = s5 at *
  go_wp2_with (first
    | (go_at_call 11; ((with_reducible refine K3.out.mono ?_); rintro e w3 ⟨rfl, hs1, hc1⟩; have HS4 := hs1; have HC3 : Hid (Chg (Mine M w0) WB w3) := HC2.out.trans hc1; obtain ⟨hp1, -⟩ := HBX.out w3 HC3.out; obtain ⟨-, x1, -, x3⟩ := hp1.cells; clear hs1 hc1 hp1))
    | (go_at_call 12; ((with_reducible refine (K4.out _ HS4).mono ?_); rintro e w4 ⟨rfl, hs1, hc1⟩; have HS5 := hs1; have HC4 : Hid (Chg (Mine M w0) WB w4) := HC3.out.trans hc1; obtain ⟨hp1, -⟩ := HBX.out w4 HC4.out; have HP4 := Lib.hid hp1; clear hs1 hc1 hp1))
    | (go_at_call 7; ((with_reducible refine (K5.out _ HP4.out HS5).mono ?_); rintro e w5 ⟨rfl, hx, -⟩; have HX2 := hx; clear hx)))
  go_ret
  obtain ⟨o, h1, -⟩ := HX2.out
  exact stepFin HLE.out h1 HLL.out.1 HLL.out.2

set_option maxRecDepth 100000 in
set_option maxHeartbeats 4000000 in
theorem pstep_6 {N : Nat → Prop} {w0 w : World} {pb d q lb lr : Nat} {s : DS} {l : LS} (x : At7) (A2 : Option Addr) (n2 c2 : Nat) (A3 : Option Addr) (n3 c3 : Nat) (A4 : Option Addr) (n4 c4 : Nat) (hI : At7In w0 x A2 A3 A4 n2 c2 n3 c3 n4) (hLt : Light x) (hN : N pb) (hpb : w0.heap.size ≤ pb)
    (hC : PairC w pb (some ⟨lb, 0, none⟩) d (some ⟨lr, 0, none⟩) q) (h : SX N w0 w (PJ lb d s l) (RJ lr q s l)) (ho : s.off = false) (hn : s.opn.length ≤ 400000) (hsl : s.safe.length ≤ 300) (hk : (IntKind.u64.wrap x.K).tmod 10 = 6) :
    Calls Try.prog 8 #[.pointer (some ⟨pb, 0, none⟩), .agg #[.int .i64 x.K, .int .i64 x.N, .slice A2 n2 c2, .slice A3 n3 c3, .slice A4 n4 c4]] w (StepPost N w0 pb d q s) := by
  have HI := Lib.hid hI
  have HLT := Lib.hid hLt
  obtain ⟨M, hle, hmp, hmv, hme, hx1, hbx⟩ := box_mk x A2 n2 c2 A3 n3 c3 A4 n4 c4 hN hC h (stb_PJ _ _ _ _) (stb_RJ _ _ _ _)
  have HX1 := Lib.hid hx1
  have HMP := Lib.hid hmp
  have HBX := Lib.hid hbx
  have HO := Lib.hid ho
  have HN := Lib.hid hn
  have HSL := Lib.hid hsl
  have HLE := Lib.hid hle
  have HMV := Lib.hid hmv
  have HME := Lib.hid hme
  have HPB := Lib.hid hpb
  have hb0 := HBX.out _ (Chg.refl _ _)
  obtain ⟨-, a0, -, -, -, -⟩ := hb0
  clear hLt hN hC h ho hn hsl hpb hI hx1 hmp hbx hle hmv hme
  go_enter Try.func8, Try.ntmps8
  go_upto_region 2 with fail
  generalize w.alloc (.cells #[.int .i64 x.K, .int .i64 x.N, .slice A2 n2 c2, .slice A3 n3 c3, .slice A4 n4 c4] 41) = WB at *
  generalize hV : w.heap.size = V at *
  have HS0 : Hid (SX M w0 WB.drew (PJ lb d s l) (RJ lr q s l)) := HX1.out.grows (stb_PJ _ _ _ _) (stb_RJ _ _ _ _) (grew_drew (grew_refl _))
  have K1 := Lib.hid (sx_armL (stb_RJ lr q s l) HS0 HO.out x.N HI.out.r1.2)
  obtain ⟨hp0, -, a1, -, -, -⟩ := HBX.out WB.drew (Chg.refl _ _).drew
  obtain ⟨-, b1, -, b3⟩ := hp0.cells
  clear hp0
  go_upto_region 10 with fail
  go_region_held3 (fun w' => w'.cell? ⟨pb, 1, none⟩ = some (.pointer (some ⟨d, 0, none⟩)) ∧ w'.cell? ⟨V, 1, none⟩ = some (.int .i64 x.N))
    (first | exact ⟨b1, a1⟩ | exact ⟨z1, z4⟩)
    (first
      | (go_at_call 23; ((with_reducible refine K1.out.mono ?_); rintro e w1 ⟨rfl, hs1, hc1⟩; have HS1 := hs1; have HC1 : Hid (Chg (Mine M w0) WB w1) := (Chg.refl _ _).drew.trans hc1; obtain ⟨hp1, -, z4, -, -, -⟩ := HBX.out w1 HC1.out; obtain ⟨-, z1, -, z3⟩ := hp1.cells; clear hs1 hc1 hp1)))
  clear b1 b3 a1 a0 K1 HS0
  have HS2 : Hid (SX M w0 w1.drew (PJ lb d (dArm s x.N) l) (RJ lr q s l)) := HS1.out.grows (stb_PJ _ _ _ _) (stb_RJ _ _ _ _) (grew_drew (grew_refl _))
  have K2 := Lib.hid (sx_armRJ (stb_PJ lb d (dArm s x.N) l) HS2 x.N HI.out.r1.2)
  go_upto_region 11 with fail
  go_region_held3 (fun w' => w'.cell? ⟨pb, 3, none⟩ = some (.pointer (some ⟨q, 0, none⟩)) ∧ w'.cell? ⟨V, 1, none⟩ = some (.int .i64 x.N))
    (first | exact ⟨z3, z4⟩ | exact ⟨y3, y4⟩)
    (first
      | (go_at_call 24; ((with_reducible refine K2.out.mono ?_); rintro e w2 ⟨rfl, hs1, hc1⟩; have HS3 := hs1; have HC2 : Hid (Chg (Mine M w0) WB w2) := HC1.out.trans ((Chg.refl _ _).drew.trans hc1); obtain ⟨hp1, -, y4, -, -, -⟩ := HBX.out w2 HC2.out; have HP2 := Lib.hid hp1; obtain ⟨-, y1, -, y3⟩ := hp1.cells; clear hs1 hc1 hp1)))
  clear z1 z3 z4 K2 HS1 HS2 y1 y3 y4
  go_wp2
  go_ret
  exact stepFin (s' := dArm s x.N) (o := some (lb, lr, l)) HLE.out ⟨HP2.out, HS3.out⟩ (by unfold dArm; split <;> rfl) (by unfold dArm; split <;> simp)

set_option maxRecDepth 100000 in
set_option maxHeartbeats 4000000 in
theorem pstep_4 {N : Nat → Prop} {w0 w : World} {pb d q lb lr : Nat} {s : DS} {l : LS} (x : At7) (A2 : Option Addr) (n2 c2 : Nat) (A3 : Option Addr) (n3 c3 : Nat) (A4 : Option Addr) (n4 c4 : Nat) (hI : At7In w0 x A2 A3 A4 n2 c2 n3 c3 n4) (hLt : Light x) (hN : N pb) (hpb : w0.heap.size ≤ pb)
    (hC : PairC w pb (some ⟨lb, 0, none⟩) d (some ⟨lr, 0, none⟩) q) (h : SX N w0 w (PJ lb d s l) (RJ lr q s l)) (ho : s.off = false) (hn : s.opn.length ≤ 400000) (hsl : s.safe.length ≤ 300) (hk : (IntKind.u64.wrap x.K).tmod 10 = 4) :
    Calls Try.prog 8 #[.pointer (some ⟨pb, 0, none⟩), .agg #[.int .i64 x.K, .int .i64 x.N, .slice A2 n2 c2, .slice A3 n3 c3, .slice A4 n4 c4]] w (StepPost N w0 pb d q s) := by
  have HI := Lib.hid hI
  have HLT := Lib.hid hLt
  obtain ⟨M, hle, hmp, hmv, hme, hx1, hbx⟩ := box_mk x A2 n2 c2 A3 n3 c3 A4 n4 c4 hN hC h (stb_PJ _ _ _ _) (stb_RJ _ _ _ _)
  have HX1 := Lib.hid hx1
  have HMP := Lib.hid hmp
  have HBX := Lib.hid hbx
  have HO := Lib.hid ho
  have HN := Lib.hid hn
  have HSL := Lib.hid hsl
  have HLE := Lib.hid hle
  have HMV := Lib.hid hmv
  have HME := Lib.hid hme
  have HPB := Lib.hid hpb
  have hb0 := HBX.out _ (Chg.refl _ _)
  obtain ⟨-, a0, -, -, -, -⟩ := hb0
  clear hLt hN hC h ho hn hsl hpb hI hx1 hmp hbx hle hmv hme
  go_enter Try.func8, Try.ntmps8
  go_upto_region 2 with fail
  generalize w.alloc (.cells #[.int .i64 x.K, .int .i64 x.N, .slice A2 n2 c2, .slice A3 n3 c3, .slice A4 n4 c4] 41) = WB at *
  generalize hV : w.heap.size = V at *
  have HS0 : Hid (SX M w0 WB.drew (PJ lb d s l) (RJ lr q s l)) := HX1.out.grows (stb_PJ _ _ _ _) (stb_RJ _ _ _ _) (grew_drew (grew_refl _))
  have K1 := Lib.hid (sx_syncL (stb_RJ lr q s l) HS0 HO.out (by have := HN.out; omega))
  have K2 := Lib.hid (fun w1 (h : Hid (SX M w0 w1 (PJ lb d (dSync s).2 l) (RJ lr q s l))) => sx_syncRJ (stb_PJ lb d (dSync s).2 l) h (by have := HN.out; omega))
  obtain ⟨hp0, -⟩ := HBX.out WB.drew (Chg.refl _ _).drew
  obtain ⟨b0, -, -, b3⟩ := hp0.cells
  clear hp0
  have HLL : Hid ((dSync s).2.safe.length = s.safe.length ∧ (dSync s).2.opn.length ≤ s.opn.length + 400) := ⟨dSync_len s, Nat.le_trans (dSync_opn s) (by omega)⟩
  obtain ⟨r1, s1, hr1⟩ : ∃ r1 s1, dSync s = (r1, s1) := ⟨_, _, rfl⟩
  rw [hr1] at K1 K2 HLL
  clear hr1
  go_upto_region 3 with fail
  go_region_held3 (fun w' => w'.cell? ⟨pb, 0, none⟩ = some (.pointer (some ⟨lb, 0, none⟩)) ∧ w'.cell? ⟨pb, 3, none⟩ = some (.pointer (some ⟨q, 0, none⟩)))
    (first | exact ⟨b0, b3⟩ | exact ⟨z1, z4⟩ | exact ⟨y1, y4⟩)
    (first
      | (go_at_call 17; ((with_reducible refine K1.out.mono ?_); rintro e w1 ⟨rfl, hs1, hc1⟩; have HS1 := hs1; have HC1 : Hid (Chg (Mine M w0) WB w1) := (Chg.refl _ _).drew.trans hc1; obtain ⟨hp1, -⟩ := HBX.out w1 HC1.out; obtain ⟨z1, -, -, z4⟩ := hp1.cells; clear hs1 hc1 hp1))
      | (go_at_call 18; ((with_reducible refine (K2.out _ HS1).mono ?_); rintro e w2 ⟨rfl, hs1, hc1⟩; have HS2 := hs1; have HC2 : Hid (Chg (Mine M w0) WB w2) := HC1.out.trans hc1; obtain ⟨hp1, -⟩ := HBX.out w2 HC2.out; have HP2 := Lib.hid hp1; obtain ⟨y1, -, -, y4⟩ := hp1.cells; clear hs1 hc1 hp1)))
  clear z1 z4 y1 y4 b0 b3
  go_wp2
  go_ret
  exact stepFin (o := some (lb, lr, l)) HLE.out ⟨HP2.out, HS2.out⟩ HLL.out.1 HLL.out.2
end Go.Proofs.Ythnhhhfjgbgpgaa.NumK
namespace Go.Proofs.Ythnhhhfjgbgpgaa.NumK
open Go.RowKit

theorem lBegin_opn (s : DS) (l : LS) (p : List UInt8) : (lBegin s l p).2.1.opn.length ≤ s.opn.length + roomD s + roomD s := by
  have a1 := wrL_opn s ((1 - l.half) * roomD s) (List.replicate (roomD s) blk0)
  rw [List.length_replicate] at a1
  have a2 := dSync_opn (wrL s ((1 - l.half) * roomD s) (List.replicate (roomD s) blk0)).2
  have a3 := wrL_opn (dSync (wrL s ((1 - l.half) * roomD s) (List.replicate (roomD s) blk0)).2).2 ((1 - l.half) * roomD s) (rowL (l.gen + 1) (frameB (l.gen + 1) 0 p))
  rw [rowL_len] at a3
  have a4 := dSync_opn (wrL (dSync (wrL s ((1 - l.half) * roomD s) (List.replicate (roomD s) blk0)).2).2 ((1 - l.half) * roomD s) (rowL (l.gen + 1) (frameB (l.gen + 1) 0 p))).2
  unfold lBegin
  split
  · show s.opn.length ≤ _; omega
  · split
    · show s.opn.length ≤ _; omega
    · split
      · show s.opn.length ≤ _; omega
      · rename_i h3
        dsimp only
        split
        · show (wrL s _ _).2.opn.length ≤ _; omega
        · split
          · show (dSync _).2.opn.length ≤ _; omega
          · split
            · show (wrL _ _ _).2.opn.length ≤ _; omega
            · split
              · show (dSync _).2.opn.length ≤ _; omega
              · show (dSync _).2.opn.length ≤ _; omega
theorem own_cap {w : World} {base : Nat} {e : TypeId} {A : Option Addr} {n c : Nat} {xs : List Value} (h : w.ownsRow base e 1 (.slice A n c) n xs) : n ≤ c := by
  rcases h.2 with ⟨e1, h0⟩ | ⟨g, cap, cur, e1, h1, h2, h3, h4, h5, h6⟩
  · cases e1; omega
  · cases e1; omega
theorem fresh_keepM {N : Nat → Prop} {w0 w w' : World} {A : Option Addr} {n c : Nat} (h : FreshB w0 w A n c) (g : Chg (Mine N w0) w w') (hA : ∀ a, A = some a → N a.block) : FreshB w0 w' A n c := by
  rcases h with h | ⟨B, h1, h2, h3⟩
  · exact Or.inl h
  · have e := g.block B h3.1 (fun hm => hm.2 (hA _ h1))
    exact Or.inr ⟨B, h1, h2, Nat.lt_of_lt_of_le h3.1 g.size, fun k hk => by
      rw [World.cell?_of_block (w := w) (w' := w') (a := ⟨B, k, none⟩) e, World.frozen?_of_block (w := w) (w' := w') (a := ⟨B, k, none⟩) e]
      exact h3.2 k hk⟩
theorem bys_keepM {N : Nat → Prop} {w0 w w' : World} {A : Option Addr} {n : Nat} {l : List UInt8} (h : Bys w A n l) (g : Chg (Mine N w0) w w') (hA : ∀ a, A = some a → N a.block) : Bys w' A n l := h.chg0 g (fun a ha _ hm => hm.2 (hA a ha))
/-- What was spoilt: one block of the law's own. -/
theorem spoil_chg {N : Nat → Prop} {w0 w w' : World} {A : Option Addr} {e : Ending} (V pb : Nat) (hV : N V) (hVw : w0.heap.size ≤ V) (hVp : pb ≠ V) (h : SpoilPost w0 A w e w') (hA : ∀ a, A = some a → N a.block ∧ w0.heap.size ≤ a.block ∧ pb ≠ a.block) : e = .returned (.tuple #[]) ∧ Chg (fun k => (N k ∧ w0.heap.size ≤ k) ∧ k ≠ pb) w w' := by
  obtain ⟨he, _, h2⟩ := h
  refine ⟨he, ?_⟩
  cases A with
  | none =>
    have := h2 V (fun a ha => by cases ha)
    exact ⟨this.os, this.tape, this.output, this.size, fun k hk hn => this.block k hk (fun e => hn ⟨⟨e ▸ hV, e ▸ hVw⟩, fun e2 => hVp (e2.symm.trans e)⟩)⟩
  | some a =>
    have := h2 a.block (fun b hb => by cases hb; rfl)
    obtain ⟨x1, x2, x3⟩ := hA a rfl
    exact ⟨this.os, this.tape, this.output, this.size, fun k hk hn => this.block k hk (fun e => hn ⟨⟨e ▸ x1, e ▸ x2⟩, fun e2 => x3 (e2.symm.trans e)⟩)⟩
set_option maxRecDepth 100000 in
set_option maxHeartbeats 4000000 in
theorem pstep_5 {N : Nat → Prop} {w0 w : World} {pb d q lb lr : Nat} {s : DS} {l : LS} (x : At7) (A2 : Option Addr) (n2 c2 : Nat) (A3 : Option Addr) (n3 c3 : Nat) (A4 : Option Addr) (n4 c4 : Nat) (hI : At7In w0 x A2 A3 A4 n2 c2 n3 c3 n4) (hLt : Light x) (hN : N pb) (hpb : w0.heap.size ≤ pb)
    (hC : PairC w pb (some ⟨lb, 0, none⟩) d (some ⟨lr, 0, none⟩) q) (h : SX N w0 w (PJ lb d s l) (RJ lr q s l)) (ho : s.off = false) (hn : s.opn.length ≤ 400000) (hsl : s.safe.length ≤ 300) (hk : (IntKind.u64.wrap x.K).tmod 10 = 5) :
    Calls Try.prog 8 #[.pointer (some ⟨pb, 0, none⟩), .agg #[.int .i64 x.K, .int .i64 x.N, .slice A2 n2 c2, .slice A3 n3 c3, .slice A4 n4 c4]] w (StepPost N w0 pb d q s) := by
  have HI := Lib.hid hI
  have HLT := Lib.hid hLt
  obtain ⟨M, hle, hmp, hmv, hme, hx1, hbx⟩ := box_mk x A2 n2 c2 A3 n3 c3 A4 n4 c4 hN hC h (stb_PJ _ _ _ _) (stb_RJ _ _ _ _)
  have HX1 := Lib.hid hx1
  have HMP := Lib.hid hmp
  have HBX := Lib.hid hbx
  have HO := Lib.hid ho
  have HN := Lib.hid hn
  have HSL := Lib.hid hsl
  have HLE := Lib.hid hle
  have HMV := Lib.hid hmv
  have HME := Lib.hid hme
  have HPB := Lib.hid hpb
  have hb0 := HBX.out _ (Chg.refl _ _)
  obtain ⟨-, a0, -, -, -, -⟩ := hb0
  have HVW : Hid (w0.heap.size ≤ w.heap.size) := h.grew.size
  have HPV : Hid (pb ≠ w.heap.size) := fun e => by have := hC.2.2; omega
  have HPV2 : Hid (pb < (w.alloc (.cells #[.int .i64 x.K, .int .i64 x.N, .slice A2 n2 c2, .slice A3 n3 c3, .slice A4 n4 c4] 41)).heap.size) := by show pb < _; simp; have := hC.2.2; omega
  clear hLt hN hC h ho hn hsl hpb hI hx1 hmp hbx hle hmv hme
  go_enter Try.func8, Try.ntmps8
  go_upto_region 2 with fail
  generalize w.alloc (.cells #[.int .i64 x.K, .int .i64 x.N, .slice A2 n2 c2, .slice A3 n3 c3, .slice A4 n4 c4] 41) = WB at *
  generalize hV : w.heap.size = V at *
  have hlB : n2 ≤ 2000 := by have := HI.out.b2.1; have := HLT.out.1; omega
  have KT := Lib.hid (twinB_any A2 n2 c2 x.B WB (HI.out.b2.keep HX1.out.grew) HI.out.a2 (by omega))
  obtain ⟨-, -, -, a2, -, -⟩ := HBX.out WB (Chg.refl _ _)
  go_upto_region 6 with (first
    | (go_at_call 19; ((with_reducible refine KT.out.mono ?_); rintro e w1 ⟨hg1, At, ct, rfl, hot, hbt, hat, hft⟩; have HG1 := Lib.hid hg1; have HOT := Lib.hid hot; have HBT := Lib.hid hbt; have HAT := Lib.hid hat; have HFT := Lib.hid hft; clear hg1 hot hbt hat hft)))
  clear a2 a0 KT
  obtain ⟨M2, hm2, hm2n, hx2⟩ : ∃ M2 : Nat → Prop, (∀ k, M k → M2 k) ∧ (∀ k, WB.heap.size ≤ k → k < w1.heap.size → M2 k) ∧ SX M2 w0 w1 (PJ lb d s l) (RJ lr q s l) := ⟨fun k => M k ∨ (WB.heap.size ≤ k ∧ k < w1.heap.size), fun k h => Or.inl h, fun k a b => Or.inr ⟨a, b⟩, HX1.out.besides (stb_PJ _ _ _ _) (stb_RJ _ _ _ _) HG1.out (fun k hk => hk)⟩
  have HX2 : Hid (SX M2 w0 w1.drew (PJ lb d s l) (RJ lr q s l)) := hx2.grows (stb_PJ _ _ _ _) (stb_RJ _ _ _ _) (grew_drew (grew_refl _))
  have HM2 := Lib.hid hm2
  have HTB : Hid (∀ a, At = some a → M2 a.block ∧ w0.heap.size ≤ a.block ∧ WB.heap.size ≤ a.block) := fun a ha => by
    have h1 := HFT.out.ge a ha
    have h2 := HFT.out.lt a ha
    exact ⟨hm2n _ h1 h2, Nat.le_trans HX1.out.grew.size h1, h1⟩
  have HMM : Hid (∀ wa wb, Chg (Mine M2 w0) wa wb → Chg (Mine M w0) wa wb) := fun wa wb g => g.mono fun k hk => ⟨hk.1, fun h => hk.2 (HM2.out k h)⟩
  have HC0 : Hid (Chg (Mine M w0) WB w1.drew) := (HG1.out.chg).drew
  have HD0 : Hid (Chg (Mine M2 w0) w1 w1.drew) := (Chg.refl _ _).drew
  clear hm2 hm2n hx2
  have K1 := Lib.hid (sx_begin (stb_RJ lr q s l) HX2 HO.out x.B At n2 ct (HBT.out.keep (grew_drew (grew_refl _))) HAT.out (own_cap HOT.out) (fun a ha _ => Or.inr (HTB.out a ha).1) (by omega) (by have := HN.out; omega))
  have hb2 := HI.out.b2
  have K2 := Lib.hid (fun P (hP : Stb P) w2 (h : Hid (SX M2 w0 w2 P (RJ lr q s l))) => sx_beginR hP h x.B A2 n2 c2 (hb2.keep h.out.grew) HI.out.a2 HI.out.m2 (fun a ha h0 => Or.inl (by obtain ⟨b, o, e2, hb, _⟩ := hb2.2 h0; rw [ha] at e2; cases e2; exact hb)) (by omega) (by have := HN.out; omega))
  have HLL : Hid ((lBegin s l x.B).2.1.safe.length = s.safe.length ∧ (lBegin s l x.B).2.1.opn.length ≤ s.opn.length + 400) := ⟨lBegin_len s l x.B, by have h1 := lBegin_opn s l x.B; have h2 := HSL.out; have h3 : roomD s ≤ 150 := by { unfold roomD; omega }; omega⟩
  obtain ⟨r1, s1, l1, hr1⟩ : ∃ r1 s1 l1, lBegin s l x.B = (r1, s1, l1) := ⟨_, _, _, rfl⟩
  rw [hr1] at K1 K2 HLL
  obtain ⟨hp0, -, -, a2, -, -⟩ := HBX.out w1.drew HC0.out
  obtain ⟨b0, -, b2, -⟩ := hp0.cells
  clear hp0 hr1 hb2
  go_region_held3 (fun w' => w'.cell? ⟨pb, 0, none⟩ = some (.pointer (some ⟨lb, 0, none⟩)) ∧ w'.cell? ⟨pb, 2, none⟩ = some (.pointer (some ⟨lr, 0, none⟩)) ∧ w'.cell? ⟨V, 2, none⟩ = some (.slice A2 n2 c2))
    (first | exact ⟨b0, b2, a2⟩ | exact ⟨z0, z2, z3⟩ | exact ⟨y0, y2, y3⟩)
    (first
      | (go_at_call 20; ((with_reducible refine K1.out.mono ?_); rintro e w2 ⟨rfl, hs1, hc1⟩; have HS1 := hs1; have HD1 : Hid (Chg (Mine M2 w0) w1 w2) := HD0.out.trans hc1; have HC1 : Hid (Chg (Mine M w0) WB w2) := HC0.out.trans (HMM.out _ _ hc1); obtain ⟨hp1, -, -, z3, -, -⟩ := HBX.out w2 HC1.out; obtain ⟨z0, -, z2, -⟩ := hp1.cells; clear hs1 hc1 hp1))
      | (go_at_call 21; ((with_reducible refine (K2.out _ (stb_PJ _ _ _ _) _ HS1).mono ?_); rintro e w3 ⟨rfl, hs1, hc1⟩; have HS2 := hs1; have HD2 : Hid (Chg (Mine M2 w0) w1 w3) := HD1.out.trans hc1; have HC2 : Hid (Chg (Mine M w0) WB w3) := HC1.out.trans (HMM.out _ _ hc1); obtain ⟨hp1, -, -, y3, -, -⟩ := HBX.out w3 HC2.out; have HP2 := Lib.hid hp1; obtain ⟨y0, -, y2, -⟩ := hp1.cells; clear hs1 hc1 hp1)))
  clear b0 b2 a2 z0 z2 z3 y0 y2 y3 K1 K2 HS1
  have KS := Lib.hid (spoilB_any At n2 ct w0 w3 (fresh_keepM (HFT.out.mono HX1.out.grew) HD2.out (fun a ha => (HTB.out a ha).1)) HS2.out.grew (by omega))
  have HVV : Hid (M2 V ∧ w0.heap.size ≤ V ∧ pb ≠ V ∧ pb < WB.heap.size) := ⟨HM2.out V HMV.out, HVW.out, HPV.out, HPV2.out⟩
  go_wp2_with (go_at_call 22; ((with_reducible refine KS.out.mono ?_); rintro e w4 hsp; obtain ⟨rfl, hc4⟩ := spoil_chg V pb HVV.out.1 HVV.out.2.1 HVV.out.2.2.1 hsp (fun a ha => ⟨(HTB.out a ha).1, (HTB.out a ha).2.1, by have h1 := (HTB.out a ha).2.2; have h2 := HVV.out.2.2.2; omega⟩); have HC4 := Lib.hid hc4; clear hsp hc4))
  go_ret
  refine stepFin (s' := s1) (o := some (lb, lr, l1)) (fun k hk => HM2.out k (HLE.out k hk)) ⟨HP2.out.of (HC4.out.block pb HP2.out.2.2 (fun h => h.2 rfl)) HC4.out.size, HS2.out.keep (stb_PJ _ _ _ _) (stb_RJ _ _ _ _) (HC4.out.mono fun k hk => hk.1)⟩ HLL.out.1 HLL.out.2
end Go.Proofs.Ythnhhhfjgbgpgaa.NumK
namespace Go.Proofs.Ythnhhhfjgbgpgaa.NumK
open Go.RowKit

/-- What a spoilt slice leaves: one block turned, bytes as before. -/
def SpoilW (A : Option Addr) (w : World) (e : Ending) (w' : World) : Prop := e = .returned (.tuple #[]) ∧ Chg (fun k => ∃ a, A = some a ∧ a.block = k) w w' ∧ ∀ B m, WrB w B m → WrB w' B m
theorem wrB_setAt {w : World} {B m C i : Nat} (h : WrB w B m) (v : Int) : WrB (w.setCell ⟨C, i, none⟩ (.int .u8 v)) B m := by
  by_cases e : B = C
  · subst e; exact h.set i v
  · refine ⟨by simp [World.setCell]; exact h.1, fun k hk => ⟨?_, by rw [World.frozen?_setCell]; exact (h.2 k hk).2⟩⟩
    obtain ⟨x, hx⟩ := (h.2 k hk).1
    exact ⟨x, (World.cell?_setCell_other _ _ _ _ (by intro e2; simp only [Addr.mk.injEq] at e2; exact e e2.1.symm)).trans hx⟩
set_option maxHeartbeats 1000000 in
theorem spoilW_any (A : Option Addr) (n c : Nat) (w0 w : World) (h : FreshB w0 w A n c) (hn : n ≤ 9223372036854775807) : Calls Try.prog 22 #[.slice A n c] w (SpoilW A w) := by
  rcases h with ⟨rfl, rfl, rfl⟩ | ⟨B, rfl, h2, h3⟩
  · exact (spoilB_none w).mono fun e w' ⟨he, hw⟩ => ⟨he, hw ▸ Chg.refl _ _, fun B m hb => hw ▸ hb⟩
  · have HR := Lib.hid h3
    clear h3
    go_enter Try.func22, Try.ntmps22
    go_wp2
    go_loopw [2] (fun vi wr => ∃ (k : Nat), vi = .int .i64 k ∧ k ≤ n ∧ Hid (WrB wr B n) ∧ Hid (Chg (fun k => k = B) w wr) ∧ Hid (∀ C m, WrB w C m → WrB wr C m)) (fun vi _ => n - (intOf vi).toNat)
    case atStart => exact ⟨0, rfl, Nat.zero_le _, HR, Chg.refl _ _, fun _ _ h => h⟩
    case round =>
      clear HR
      obtain ⟨k, rfl, hk, HR, HT, HW⟩ := hrel
      by_cases hlt : k < n
      · obtain ⟨⟨x, a1⟩, a2⟩ := HR.out.2 k hlt
        have a3 : (k : Int) < (n : Int) := by omega
        have HR2 := Lib.hid (fun v => HR.out.set k v)
        have HT2 : Hid (∀ v : Int, Chg (fun k => k = B) w (wr.setCell ⟨B, k, none⟩ (.int .u8 v))) := fun v => HT.out.setCell ⟨B, k, none⟩ _ (fun _ => rfl)
        have HW2 : Hid (∀ v : Int, ∀ C m, WrB w C m → WrB (wr.setCell ⟨B, k, none⟩ (.int .u8 v)) C m) := fun v C m h => wrB_setAt (HW.out C m h) v
        go_wp2
        go_roundw
        case rel => exact ⟨k + 1, by go_num, by omega, HR2.out _, HT2.out _, HW2.out _⟩
        case measure => simp only [intOf]; omega
      · go_wp2
        go_end0
        exact ⟨rfl, HT.out.mono fun k hk => ⟨_, rfl, hk.symm⟩, HW.out⟩
/-- Rows of the law's own, made since base: the outer slice in block g, each other one's block another. -/
def OwnR (w : World) (P : Nat → Prop) (A : Option Addr) (n : Nat) (ls : List (List UInt8)) : Prop :=
  ls.length = n ∧ (0 < n → ∃ g, A = some ⟨g, 0, none⟩ ∧ P g ∧ g < w.heap.size ∧ ∀ j, j < n → ∃ A1 n1 c1, w.cell? ⟨g, j, none⟩ = some (.slice A1 n1 c1) ∧ Bys w A1 n1 (ls.getD j []) ∧ (A1 = none → c1 = 0) ∧ n1 ≤ c1 ∧ ((A1 = none ∧ n1 = 0 ∧ c1 = 0) ∨ ∃ B, A1 = some ⟨B, 0, none⟩ ∧ P B ∧ B ≠ g ∧ WrB w B n1))
theorem RowsO.own {w : World} {base : Nat} {v : Value} {ls : List (List UInt8)} (h : RowsO w base v ls) : ∃ A c, v = .slice A ls.length c ∧ (A = none → c = 0) ∧ ls.length ≤ c ∧ OwnR w (fun k => base ≤ k ∧ k < w.heap.size) A ls.length ls := by
  obtain ⟨xs, h1, h3⟩ := h
  have h1' := h1
  rcases h1.2 with ⟨rfl, h0⟩ | ⟨g, cap, cur, rfl, hb, hg, hc, _, _, ht⟩
  · rw [h0]
    exact ⟨none, 0, rfl, fun _ => rfl, Nat.le_refl _, h0, fun h => absurd h (by omega)⟩
  · refine ⟨some ⟨g, 0, none⟩, cap, rfl, (fun h => by cases h), hc, rfl, fun _ => ⟨g, rfl, ⟨hb, own_at_lt hg⟩, own_at_lt hg, fun j hj => ?_⟩⟩
    obtain ⟨x, hx, hs⟩ := h3 j hj
    obtain ⟨A1, c1, rfl, hbb, hA, hf⟩ := bys_of_own hs
    refine ⟨A1, _, c1, ?_, hbb, hA, own_cap hs, ?_⟩
    · rw [cell_of_row w g j cur _ (0, 0) hg]
      have e1 : (cur.toList.take (ls.length * 1))[j]? = cur[j]? := by rw [List.getElem?_take]; simp [hj]
      rw [← e1, ht, hx]
    · rcases hf { w with heap := w.heap.extract 0 0 } (by simp) with h5 | ⟨B, h5, _, h6⟩
      · exact Or.inl h5
      · have hob : (Value.slice A1 (ls.getD j []).length c1).ownBlock = some B := by rw [h5]; rfl
        have hne := own_ne hs h1' (by decide) B hob
        refine Or.inr ⟨B, h5, World.ownsRow.lt hs B hob, fun e => hne ?_, h6⟩
        rw [e]; rfl
theorem OwnR.stays {w w0 : World} {N : Nat → Prop} {P : Nat → Prop} {A : Option Addr} {n : Nat} {ls : List (List UInt8)} (h : OwnR w P A n ls) (hN : ∀ k, P k → N k) (hl : ∀ r ∈ ls, r.length ≤ 9223372036854775807) : RowsS (Mine N w0) w A n ls :=
  ⟨h.1, fun hn => by
    obtain ⟨g, e, hb, hg, hc⟩ := h.2 hn
    refine ⟨g, 0, e, hg, fun j hj => ?_⟩
    obtain ⟨A1, n1, c1, h1, h2, h3, h4, h5⟩ := hc j hj
    have hAN : ∀ a, A1 = some a → N a.block := fun a ha => by
      rcases h5 with ⟨h6, _⟩ | ⟨B, h6, h7, _, h8⟩
      · rw [h6] at ha; cases ha
      · rw [h6] at ha; cases ha; exact hN B h7
    refine ⟨A1, n1, c1, fun w' gg => ⟨?_, bys_keepM h2 gg hAN⟩, h3, h4, ?_⟩
    · rw [Nat.zero_add]
      exact (gg.cell (p := ⟨g, j, none⟩) hg (fun hm => hm.2 (hN g hb))).trans h1
    · have hj2 : j < ls.length := by rw [h.1]; exact hj
      have h9 := hl _ (getD_in ls j hj2)
      rw [h2.1] at h9; exact h9⟩
theorem OwnR.keepM {w w' w0 : World} {N P : Nat → Prop} {A : Option Addr} {n : Nat} {ls : List (List UInt8)} (h : OwnR w P A n ls) (g : Chg (Mine N w0) w w') (hN : ∀ k, P k → N k) : OwnR w' P A n ls :=
  ⟨h.1, fun hn => by
    obtain ⟨b, e, hb, hg, hc⟩ := h.2 hn
    refine ⟨b, e, hb, Nat.lt_of_lt_of_le hg g.size, fun j hj => ?_⟩
    obtain ⟨A1, n1, c1, h1, h2, h3, h4, h5⟩ := hc j hj
    have hAN : ∀ a, A1 = some a → N a.block := fun a ha => by
      rcases h5 with ⟨h6, _⟩ | ⟨B, h6, h7, _, h8⟩
      · rw [h6] at ha; cases ha
      · rw [h6] at ha; cases ha; exact hN B h7
    refine ⟨A1, n1, c1, (g.cell (p := ⟨b, j, none⟩) hg (fun hm => hm.2 (hN b hb))).trans h1, bys_keepM h2 g hAN, h3, h4, ?_⟩
    rcases h5 with h5 | ⟨B, h6, h7, h8, h9⟩
    · exact Or.inl h5
    · have e2 := g.block B h9.1 (fun hm => hm.2 (hN B h7))
      exact Or.inr ⟨B, h6, h7, h8, Nat.lt_of_lt_of_le h9.1 g.size, fun k hk => by
        rw [World.cell?_of_block (w := w) (w' := w') (a := ⟨B, k, none⟩) e2, World.frozen?_of_block (w := w) (w' := w') (a := ⟨B, k, none⟩) e2]
        exact h9.2 k hk⟩⟩
/-- What the spoiling of rows has turned so far. -/
structure SpI (P : Nat → Prop) (w w' : World) : Prop where
  chg : Chg P w w'
  wr : ∀ B m, WrB w B m → WrB w' B m
theorem SpI.refl (P : Nat → Prop) (w : World) : SpI P w w := ⟨Chg.refl _ _, fun _ _ h => h⟩
/-- A row to be spoilt, when others were. -/
theorem OwnR.spoil {w wr : World} {P : Nat → Prop} {A : Option Addr} {n : Nat} {ls : List (List UInt8)} (h : OwnR w P A n ls) (g0 : SpI (fun k => P k ∧ A ≠ some ⟨k, 0, none⟩) w wr) (j : Nat) (hj : j < n) :
    ∃ g A1 n1 c1, A = some ⟨g, 0, none⟩ ∧ wr.cell? ⟨g, j, none⟩ = some (.slice A1 n1 c1) ∧ n1 = (ls.getD j []).length ∧ (n1 ≤ 9223372036854775807 → Calls Try.prog 22 #[.slice A1 n1 c1] wr fun e w' => e = .returned (.tuple #[]) ∧ SpI (fun k => P k ∧ A ≠ some ⟨k, 0, none⟩) w w') := by
  obtain ⟨g, e, hb, hg, hc⟩ := h.2 (by omega)
  obtain ⟨A1, n1, c1, h1, h2, h3, h4, h5⟩ := hc j hj
  refine ⟨g, A1, n1, c1, e, (g0.chg.cell (p := ⟨g, j, none⟩) hg (fun hm => hm.2 e)).trans h1, h2.1.symm, fun hn => ?_⟩
  have hfr : FreshB { wr with heap := wr.heap.extract 0 0 } wr A1 n1 c1 := by
    rcases h5 with h5 | ⟨B, h6, h7, h8, h9⟩
    · exact Or.inl h5
    · exact Or.inr ⟨B, h6, by simp, g0.wr B n1 h9⟩
  refine (spoilW_any A1 n1 c1 _ wr hfr hn).mono fun e' w' ⟨he, hc2, hw⟩ => ⟨he, ⟨g0.chg.trans (hc2.mono fun k hk => ?_), fun B m hB => hw B m (g0.wr B m hB)⟩⟩
  obtain ⟨a, ha, hk⟩ := hk
  rcases h5 with ⟨h6, _⟩ | ⟨B, h6, h7, h8, h9⟩
  · rw [h6] at ha; cases ha
  · rw [h6] at ha; cases ha
    have hk : B = k := hk
    subst hk
    exact ⟨h7, fun e2 => h8 (by rw [e] at e2; cases e2; rfl)⟩
end Go.Proofs.Ythnhhhfjgbgpgaa.NumK
