/- pack: a Reader's Int, Mark, Text, Done; NewReader. -/
import Derived.Test.YtfhfgninjelfbaaPackE
import Derived.Deep.CutBlock
import Derived.Laws.BitsAllLaws
namespace Go.Proofs.Ytfhfgninjelfbaa.NumK
open Go.RowKit

theorem done_any (p : Nat) (s : RS) (w : World) (h : RD w p s) :
    Calls Try.prog 25 #[.pointer (some ⟨p, 0, none⟩)] w fun e w' => e = .returned (.int .i64 (rD s)) ∧ w = w' := by
  obtain ⟨hp, ho, hl, h0, h1, f0, f1⟩ := h
  clear ho f0 f1
  by_cases he : s.e = 0
  · rw [he] at h1
    cases hs : s.l with
    | nil =>
      have HD : Hid (rD s = 0) := by show _ = _; unfold rD; rw [hs, he]; simp
      rw [hs] at h0
      rw [HD.out]
      clear hs he hl
      go_enter Try.func25, Try.ntmps25
      go_wp2
      go_ret
      exact ⟨rfl, rfl⟩
    | cons c r =>
      have HD : Hid (rD s = 4) := by show _ = _; unfold rD; rw [hs, he]; simp
      rw [hs] at h0 hl
      rw [HD.out]
      clear hs he
      go_enter Try.func25, Try.ntmps25
      go_wp2
      go_ret
      exact ⟨rfl, rfl⟩
  · have d : (s.e == 0) = false := by simpa using he
    have HD : Hid (rD s = s.e) := by show _ = _; unfold rD; rw [if_neg (fun h => he h.1)]
    rw [HD.out]
    clear he hl
    go_enter Try.func25, Try.ntmps25
    go_wp2
    go_ret
    exact ⟨rfl, rfl⟩

theorem newReader_any (A : Option Addr) (n c : Nat) (l : List UInt8) (w : World) (hb : Bys w A n l) (hA : A = none → c = 0) (hn : n ≤ 1000000000) :
    Calls Try.prog 18 #[.slice A n c] w fun e w' => e = .returned (.pointer (some ⟨w.heap.size, 0, none⟩)) ∧ RD w' w.heap.size ⟨l, 0⟩ ∧ Grew w w' := by
  have hr := run_toText w A n c l hb hA
  have HP : Hid (RD (w.alloc (.cells #[.string ⟨l.toArray⟩, .int .i64 0] 61)) w.heap.size ⟨l, 0⟩) :=
    ⟨by simp, fun h => absurd rfl h, by rw [hb.1]; exact hn, by simp, by simp, by simp, by simp⟩
  clear hb hA
  go_enter Try.func18, Try.ntmps18
  go_wp2
  go_ret
  exact ⟨rfl, HP.out, grew_alloc _ _ _⟩

def markR (s : RS) : Bool × RS := if 1 < (octV s).toNat then (false, rFail (octR s) 4) else (decide ((octV s).toNat = 1), octR s)
theorem markR_eq (s : RS) : markR s = rM s := by
  unfold markR rM octV octR rFail
  split
  · cases hs : s.l with
    | nil => simp [RS.fail]
    | cons c r => simp [RS.fail]
  · simp
theorem rMark_any (p : Nat) (s : RS) (w : World) (h : RD w p s) :
    Calls Try.prog 21 #[.pointer (some ⟨p, 0, none⟩)] w (RPost p (.bool (rM s).1) (rM s).2 w) := by
  have C := octet_any p s w h
  rw [← markR_eq]
  by_cases h1 : 1 < (octV s).toNat
  · have e : markR s = (false, rFail (octR s) 4) := by unfold markR; rw [if_pos h1]
    rw [e]
    have C2 := fun w1 (hw : RD w1 p (octR s)) => fail_any p (octR s) 4 w1 hw
    generalize (octV s).toNat = u at *
    generalize octR s = s1 at *
    generalize rFail s1 4 = s2 at *
    clear e h
    go_enter Try.func21, Try.ntmps21
    go_wp2_with (first
      | (go_at_call 35; ((with_reducible refine C.mono ?_); rintro e w1 ⟨rfl, hr, ht⟩; have HT := Lib.hid ht; have C3 := C2 _ hr; clear hr ht C2))
      | (go_at_call 37; ((with_reducible refine C3.mono ?_); rintro e w2 ⟨rfl, hr, ht⟩; have HR2 := Lib.hid hr; have HT2 := Lib.hid ht; clear hr ht)))
    go_ret
    exact ⟨rfl, HR2.out, HT.out.trans HT2.out⟩
  · have e : markR s = (decide ((octV s).toNat = 1), octR s) := by unfold markR; rw [if_neg h1]
    rw [e]
    generalize (octV s).toNat = u at *
    generalize octR s = s1 at *
    clear e h
    go_enter Try.func21, Try.ntmps21
    go_wp2_with (first
      | (go_at_call 35; ((with_reducible refine C.mono ?_); rintro e w1 hp; have HP := Lib.hid hp; obtain ⟨rfl, _⟩ := hp)))
    go_ret
    exact ⟨ret_b (by rw [Bool.eq_iff_iff]; simp; omega), HP.out.2⟩

/-! ### Int -/
theorem or_shift (z g i : Nat) (hz : z < 128 ^ i) (hi : i ≤ 9) (hg : g < 128) (h9 : i = 9 → g ≤ 1) :
    bits .or .u64 (z : Int) (IntKind.u64.wrap ((g : Int) * 2 ^ min (7 * i) 64)) = ((z + g * 128 ^ i : Nat) : Int) ∧ z + g * 128 ^ i < 18446744073709551616 := by
  have hm : min (7 * i) 64 = 7 * i := by omega
  have hp : (2 : Int) ^ (7 * i) = ((2 ^ (7 * i) : Nat) : Int) := by simp
  have hq : 128 ^ i = 2 ^ (7 * i) := by rw [Nat.pow_mul]
  have hb : 2 ^ (7 * i) ≤ 2 ^ 63 := Nat.pow_le_pow_right (by decide) (by omega)
  have hb8 : i ≤ 8 → 2 ^ (7 * i) ≤ 2 ^ 56 := fun h => Nat.pow_le_pow_right (by decide) (by omega)
  rw [hm, hp, hq]
  rw [hq] at hz
  have hlt := Nat.two_pow_add_eq_or_of_lt hz g
  generalize 2 ^ (7 * i) = k at *
  have hgk : g * k + k ≤ 18446744073709551616 := by
    by_cases h : i = 9
    · have := h9 h
      have : g * k ≤ 1 * k := Nat.mul_le_mul_right _ this
      omega
    · have h8 := hb8 (by omega)
      have : g * k + k ≤ 128 * k := by have : (g + 1) * k ≤ 128 * k := Nat.mul_le_mul_right _ (by omega); rw [Nat.add_mul] at this; omega
      omega
  have hw : IntKind.u64.wrap ((g : Int) * (k : Int)) = ((g * k : Nat) : Int) := by
    rw [IntKind.wrap_u64, ← Int.natCast_mul]; omega
  rw [hw, u64_or_nat _ _ (by omega) (by omega)]
  have : z ||| g * k = z + g * k := by rw [Nat.or_comm, Nat.mul_comm g k, ← hlt]; omega
  rw [this]
  exact ⟨rfl, by omega⟩

/-- Where a Reader's Int stands: i groups are read, of the value zz, r is left. -/
def At (l0 : List UInt8) (i : Nat) (zz : Int) (r : List UInt8) : Prop :=
  i + r.length = l0.length ∧ ((i ≤ 9 ∧ ∃ z : Nat, zz = z ∧ z < 128 ^ i ∧ dv 0 0 l0 = dv i z r) ∨ (10 ≤ i ∧ dv 0 0 l0 = none))
theorem At.start (l : List UInt8) : At l 0 0 l := ⟨by omega, Or.inl ⟨by omega, 0, rfl, by simp, rfl⟩⟩
theorem At.nothing {l0 : List UInt8} {i : Nat} {zz : Int} (h : At l0 i zz []) : dv 0 0 l0 = none := by
  rcases h.2 with ⟨_, z, _, _, e⟩ | ⟨_, e⟩
  · rw [e, dv]
  · exact e
theorem At.no {l0 r : List UInt8} {i : Nat} {zz : Int} {c : UInt8} (h : At l0 i zz (c :: r)) (hm : mayB i (c.toNat % 128) (decide (c.toNat < 128)) = false) : dv 0 0 l0 = none := by
  rcases h.2 with ⟨hi, z, _, _, e⟩ | ⟨_, e⟩
  · rw [e, dv, if_pos]
    have := c.toNat_lt
    unfold mayB at hm
    simp at hm
    omega
  · exact e
theorem At.last {l0 r : List UInt8} {i : Nat} {zz : Int} {c : UInt8} (h : At l0 i zz (c :: r)) (hm : mayB i (c.toNat % 128) (decide (c.toNat < 128)) = true) (hc : c.toNat < 128) :
    ∃ a : Nat, a < 18446744073709551616 ∧ bits .or .u64 zz (IntKind.u64.wrap (((c.toNat % 128 : Nat) : Int) * 2 ^ min (7 * i) 64)) = (a : Int) ∧ dv 0 0 l0 = some (a, r) := by
  unfold mayB at hm
  simp at hm
  rcases h.2 with ⟨hi, z, rfl, hz, e⟩ | ⟨hi, e⟩
  · obtain ⟨h1, h2⟩ := or_shift z (c.toNat % 128) i hz hi (by omega) (by omega)
    refine ⟨_, h2, h1, ?_⟩
    rw [e, dv, if_neg (by omega), if_pos hc]
  · omega
theorem At.next {l0 r : List UInt8} {i : Nat} {zz : Int} {c : UInt8} (h : At l0 i zz (c :: r)) (_ : mayB i (c.toNat % 128) (decide (c.toNat < 128)) = true) (hc : ¬ c.toNat < 128) :
    At l0 (i + 1) (bits .or .u64 zz (IntKind.u64.wrap (((c.toNat % 128 : Nat) : Int) * 2 ^ min (7 * i) 64))) r := by
  refine ⟨by have := h.1; simp at this; omega, ?_⟩
  rcases h.2 with ⟨hi, z, rfl, hz, e⟩ | ⟨hi, e⟩
  · by_cases h9 : i = 9
    · right
      refine ⟨by omega, ?_⟩
      rw [e, dv, if_pos (by omega)]
    · left
      obtain ⟨h1, h2⟩ := or_shift z (c.toNat % 128) i hz hi (by omega) (by omega)
      refine ⟨by omega, _, h1, ?_, ?_⟩
      · have : (z + c.toNat % 128 * 128 ^ i) < (c.toNat % 128 + 1) * 128 ^ i := by rw [Nat.add_mul]; omega
        refine Nat.lt_of_lt_of_le this ?_
        rw [Nat.pow_succ, Nat.mul_comm]
        exact Nat.mul_le_mul_left _ (by omega)
      · rw [e, dv, if_neg (by omega), if_neg hc]
  · exact Or.inr ⟨by omega, e⟩

theorem rI_none {s : RS} (he : s.e = 0) (h : dv 0 0 s.l = none) : rI s = (0, .fail 4) := by unfold rI decI; rw [if_pos he, h]; rfl
theorem rI_some {s : RS} {a : Nat} {r : List UInt8} (he : s.e = 0) (h : dv 0 0 s.l = some (a, r)) : rI s = (zag a, ⟨r, 0⟩) := by unfold rI decI; rw [if_pos he, h]; rfl

set_option maxRecDepth 100000 in
set_option maxHeartbeats 1000000 in
theorem rInt_any (p : Nat) (s : RS) (w : World) (h : RD w p s) :
    Calls Try.prog 19 #[.pointer (some ⟨p, 0, none⟩)] w (RPost p (.int .i64 (rI s).1) (rI s).2 w) := by
  have HD := Lib.hid h
  clear h
  by_cases he : s.e = 0
  · have HE := Lib.hid he
    have hll := HD.out.2.2.1
    clear he
    go_enter Try.func19, Try.ntmps19
    go_wp2
    go_loopw [3, 4] (fun v3 v4 wr => ∃ (i sh : Nat) (zz : Int) (r : List UInt8), v3 = .int .u64 zz ∧ v4 = .int .i64 sh ∧ Hid (sh = 7 * i) ∧ Hid (At s.l i zz r) ∧ Hid (RD wr p ⟨r, 0⟩) ∧ Hid (Turn p w wr)) (fun _ v4 _ => 7 * s.l.length + 7 - (intOf v4).toNat)
    case atStart => exact ⟨0, 0, 0, s.l, rfl, rfl, rfl, At.start _, by have := HD.out; have he := HE.out; cases s; simp at he; subst he; exact this, Turn.refl _ _⟩
    case round =>
      obtain ⟨i, sh, zz, r, rfl, rfl, HSH, HAT, HR, HT⟩ := hrel
      have C := octet_any p ⟨r, 0⟩ wr HR.out
      cases r with
      | nil =>
        have C1 : Calls Try.prog 35 #[.pointer (some ⟨p, 0, none⟩)] wr (RPost p (.int .u8 0) (.fail 4) wr) := C
        have HV := Lib.hid (rI_none HE.out HAT.out.nothing)
        have C2 := fun w1 (hw : RD w1 p (.fail 4)) => (show Calls Try.prog 37 #[.pointer (some ⟨p, 0, none⟩), .int .i64 4] w1 (RPost p (.tuple #[]) (.fail 4) w1) from fail_any p (.fail 4) 4 w1 hw)
        rw [HV.out]
        clear HAT C
        go_wp2_with (first
          | (go_at_call 35; ((with_reducible refine C1.mono ?_); rintro e w1 ⟨rfl, hr, ht⟩; have h1 : w1.cell? ⟨p, 1, none⟩ = some (.int .i64 4) := hr.2.2.2.2.1; have HT1 := Lib.hid ht; have C3 := C2 _ hr; clear hr ht C2 C1))
          | (go_at_call 37; ((with_reducible refine C3.mono ?_); rintro e w2 ⟨rfl, hr, ht⟩; have HR2 := Lib.hid hr; have HT2 := Lib.hid ht; clear hr ht)))
        go_ret
        exact ⟨rfl, HR2.out, HT.out.trans (HT1.out.trans HT2.out)⟩
      | cons c r =>
        have C1 : Calls Try.prog 35 #[.pointer (some ⟨p, 0, none⟩)] wr (RPost p (.int .u8 c.toNat) ⟨r, 0⟩ wr) := C
        have hi : i ≤ 1000000000 := by have := HAT.out.1; omega
        have hir : i < s.l.length := by have := HAT.out.1; simp at this; omega
        have hsh : sh ≤ 7000000000 := by rw [HSH.out]; omega
        have HC : Hid (sh < 7 * s.l.length) := by show _ < _; rw [HSH.out]; omega
        have hu := c.toNat_lt
        have CM : ∀ b w1, Calls Try.prog 36 #[.int .u64 (c.toNat % 128 : Nat), .int .i64 sh, .bool b] w1 fun e w' => e = .returned (.bool (mayB i (c.toNat % 128) b)) ∧ w1 = w' := fun b w1 => by
          rw [HSH.out]; exact mayStand_any i (c.toNat % 128) b (by omega) (by omega) w1
        have hg : ((c.toNat : Int) % 128) = ((c.toNat % 128 : Nat) : Int) := by omega
        have CF := fun w1 (hw : RD w1 p ⟨r, 0⟩) => (show Calls Try.prog 37 #[.pointer (some ⟨p, 0, none⟩), .int .i64 4] w1 (RPost p (.tuple #[]) (.fail 4) w1) from fail_any p ⟨r, 0⟩ 4 w1 hw)
        have HNO := Lib.hid (fun hm => rI_none HE.out (HAT.out.no hm))
        have HLAST : Hid (mayB i (c.toNat % 128) (decide (c.toNat < 128)) = true → c.toNat < 128 → ∃ a : Nat, a < 18446744073709551616 ∧ bits .or .u64 zz (IntKind.u64.wrap (((c.toNat % 128 : Nat) : Int) * 2 ^ min sh 64)) = (a : Int) ∧ rI s = (zag a, ⟨r, 0⟩)) := by
          intro hm hc
          obtain ⟨a, h1, h2, h3⟩ := HAT.out.last hm hc
          exact ⟨a, h1, by rw [HSH.out]; exact h2, rI_some HE.out h3⟩
        have HNEXT : Hid (mayB i (c.toNat % 128) (decide (c.toNat < 128)) = true → ¬ c.toNat < 128 → At s.l (i + 1) (bits .or .u64 zz (IntKind.u64.wrap (((c.toNat % 128 : Nat) : Int) * 2 ^ min sh 64))) r) := by
          intro hm hc
          rw [HSH.out]; exact HAT.out.next hm hc
        clear HAT C hi hir
        generalize c.toNat % 128 = g at *
        generalize c.toNat = u at *
        cases hm : mayB i g (decide (u < 128)) with
        | false =>
          have HV := Lib.hid (HNO.out hm)
          rw [HV.out]
          clear HNO HLAST HNEXT
          by_cases hc : u < 128
          · have CM1 := CM (decide ((u : Int) < 128))
            rw [show decide (u < 128) = decide ((u : Int) < 128) from by rw [Bool.eq_iff_iff]; simp; omega] at hm
            rw [hm] at CM1
            clear CM hm
            go_wp2_with (first
              | (go_at_call 35; ((with_reducible refine C1.mono ?_); rintro e w1 ⟨rfl, hr, ht⟩; have h1 : w1.cell? ⟨p, 1, none⟩ = some (.int .i64 0) := hr.2.2.2.2.1; have HT1 := Lib.hid ht; have C3 := CF _ hr; clear hr ht CF C1))
              | (go_at_call 36; ((with_reducible refine (CM1 _).mono ?_); rintro e w2 ⟨rfl, rfl⟩))
              | (go_at_call 37; ((with_reducible refine C3.mono ?_); rintro e w2 ⟨rfl, hr, ht⟩; have HR2 := Lib.hid hr; have HT2 := Lib.hid ht; clear hr ht)))
            go_ret
            exact ⟨rfl, HR2.out, HT.out.trans (HT1.out.trans HT2.out)⟩
          · have CM1 := CM (decide ((u : Int) < 128))
            rw [show decide (u < 128) = decide ((u : Int) < 128) from by rw [Bool.eq_iff_iff]; simp; omega] at hm
            rw [hm] at CM1
            clear CM hm
            go_wp2_with (first
              | (go_at_call 35; ((with_reducible refine C1.mono ?_); rintro e w1 ⟨rfl, hr, ht⟩; have h1 : w1.cell? ⟨p, 1, none⟩ = some (.int .i64 0) := hr.2.2.2.2.1; have HT1 := Lib.hid ht; have C3 := CF _ hr; clear hr ht CF C1))
              | (go_at_call 36; ((with_reducible refine (CM1 _).mono ?_); rintro e w2 ⟨rfl, rfl⟩))
              | (go_at_call 37; ((with_reducible refine C3.mono ?_); rintro e w2 ⟨rfl, hr, ht⟩; have HR2 := Lib.hid hr; have HT2 := Lib.hid ht; clear hr ht)))
            go_ret
            exact ⟨rfl, HR2.out, HT.out.trans (HT1.out.trans HT2.out)⟩
        | true =>
          clear HNO CF
          by_cases hc : u < 128
          · obtain ⟨a, ha, hb, hr⟩ := HLAST.out hm hc
            have HV := Lib.hid hr
            have CU := fun w => unfold_any a ha w
            rw [HV.out]
            have CM1 := CM (decide ((u : Int) < 128))
            rw [show decide (u < 128) = decide ((u : Int) < 128) from by rw [Bool.eq_iff_iff]; simp; omega] at hm
            rw [hm] at CM1
            clear CM hm HLAST HNEXT hr ha
            go_wp2_with (first
              | (go_at_call 35; ((with_reducible refine C1.mono ?_); rintro e w1 ⟨rfl, hr, ht⟩; have h1 : w1.cell? ⟨p, 1, none⟩ = some (.int .i64 0) := hr.2.2.2.2.1; have HT1 := Lib.hid ht; have HR1 := Lib.hid hr; clear hr ht C1))
              | (go_at_call 36; ((with_reducible refine (CM1 _).mono ?_); rintro e w2 ⟨rfl, rfl⟩))
              | (go_at_call 38; ((with_reducible refine (CU _).mono ?_); rintro e w2 ⟨rfl, rfl⟩)))
            go_ret
            exact ⟨rfl, HR1.out, HT.out.trans HT1.out⟩
          · have HN := Lib.hid (HNEXT.out hm hc)
            have CM1 := CM (decide ((u : Int) < 128))
            rw [show decide (u < 128) = decide ((u : Int) < 128) from by rw [Bool.eq_iff_iff]; simp; omega] at hm
            rw [hm] at CM1
            clear CM hm HLAST HNEXT
            generalize hy : bits .or .u64 zz (IntKind.u64.wrap ((g : Int) * 2 ^ min sh 64)) = y at *
            go_wp2_with (first
              | (go_at_call 35; ((with_reducible refine C1.mono ?_); rintro e w1 ⟨rfl, hr, ht⟩; have h1 : w1.cell? ⟨p, 1, none⟩ = some (.int .i64 0) := hr.2.2.2.2.1; have HT1 := Lib.hid ht; have HR1 := Lib.hid hr; clear hr ht C1))
              | (go_at_call 36; ((with_reducible refine (CM1 _).mono ?_); rintro e w2 ⟨rfl, rfl⟩)))
            go_roundw
            case rel => exact ⟨i + 1, sh + 7, y, r, rfl, by go_num, by show _ = _; rw [HSH.out]; omega, HN, HR1, HT.out.trans HT1.out⟩
            case measure => have := HC.out; simp only [intOf]; omega
  · have e1 : octV s = 0 := by unfold octV; rw [if_neg he]
    have e2 : octR s = s := by unfold octR; rw [if_neg he]
    have e3 : rFail s 4 = s := by unfold rFail; rw [if_neg he]
    have HV := Lib.hid (rI_bad he)
    have C := octet_any p s w HD.out
    rw [e1, e2] at C
    have C1 : Calls Try.prog 35 #[.pointer (some ⟨p, 0, none⟩)] w (RPost p (.int .u8 0) s w) := C
    have C2 := fun w1 (hw : RD w1 p s) => fail_any p s 4 w1 hw
    rw [e3] at C2
    rw [HV.out]
    have d : (s.e != 0) = true := by simpa using he
    clear e1 e2 e3 C he
    go_enter Try.func19, Try.ntmps19
    go_wp2
    go_loopw [3, 4] (fun v3 v4 wr => v3 = .int .u64 0 ∧ v4 = .int .i64 0 ∧ w = wr) (fun _ _ _ => 0)
    case atStart => exact ⟨rfl, rfl, rfl⟩
    case round =>
      obtain ⟨rfl, rfl, rfl⟩ := hrel
      go_wp2_with (first
        | (go_at_call 35; ((with_reducible refine C1.mono ?_); rintro e w1 ⟨rfl, hr, ht⟩; have h1 : w1.cell? ⟨p, 1, none⟩ = some (.int .i64 s.e) := hr.2.2.2.2.1; have HT1 := Lib.hid ht; have C3 := C2 _ hr; clear hr ht C2 C1))
        | (go_at_call 37; ((with_reducible refine C3.mono ?_); rintro e w2 ⟨rfl, hr, ht⟩; have HR2 := Lib.hid hr; have HT2 := Lib.hid ht; clear hr ht)))
      go_ret
      exact ⟨rfl, HR2.out, HT1.out.trans HT2.out⟩

theorem rI_zero {s : RS} (h : (rI s).2.e ≠ 0) : (rI s).1 = 0 := by
  unfold rI at *
  split
  · rename_i he
    rw [if_pos he] at h
    split
    · rfl
    · rename_i hd; rw [hd] at h; exact absurd rfl h
  · rfl

/-- A text that was read. -/
def TPost (p : Nat) (t : List UInt8) (s' : RS) (w : World) (e : Ending) (w' : World) : Prop :=
  ∃ A n c, e = .returned (.slice A n c) ∧ Bys w' A n t ∧ FreshB w w' A n c ∧ (A = none → c = 0) ∧ RD w' p s' ∧ Turn p w w'
theorem tpost_str {p : Nat} {s' : RS} {w w1 : World} {l : List UInt8} (hR : RD w1 p s') (hT : Turn p w w1) (v : Value) (hv : v = .slice (some ⟨w1.heap.size, 0, none⟩) (⟨l.toArray⟩ : ByteArray).size (grownCap w1 (⟨l.toArray⟩ : ByteArray).size 0 5)) :
    TPost p l s' w (.returned v) (strW w1 ⟨l.toArray⟩) := by
  subst hv
  have hg := grew_strW w1 ⟨l.toArray⟩
  have hb := bys_strW w1 ⟨l.toArray⟩
  simp only at hb
  refine ⟨_, _, _, rfl, by simpa using hb, ?_, (fun h => by cases h), hR.keep hg, hT.grew hg⟩
  rcases fresh_strW w1 ⟨l.toArray⟩ (grownCap w1 (⟨l.toArray⟩ : ByteArray).size 0 5) with h | ⟨B, h1, h2, h3⟩
  · cases h.1
  · exact Or.inr ⟨B, h1, Nat.le_trans hT.size h2, h3⟩

set_option maxHeartbeats 1000000 in
theorem rText_any (p : Nat) (s : RS) (w : World) (h : RD w p s) :
    Calls Try.prog 23 #[.pointer (some ⟨p, 0, none⟩)] w (TPost p (rT s).1 (rT s).2 w) := by
  have C1 := rInt_any p s w h
  have hz := @rI_zero s
  have hb := rI_bd s
  have HT0 : Hid (rT s = if (rI s).2.e = 0 then
    (if (rI s).1 < 0 then ([], .fail 4) else if 65536 < (rI s).1 then ([], .fail 5)
     else if ((rI s).2.l.length : Int) < (rI s).1 then ([], .fail 4) else ((rI s).2.l.take (rI s).1.toNat, ⟨(rI s).2.l.drop (rI s).1.toNat, 0⟩))
    else ([], (rI s).2)) := rfl
  generalize rT s = out at *
  generalize (rI s).1 = v at *
  generalize (rI s).2 = s1 at *
  clear h
  have key : ∀ (s2 : RS), out = (takeS s2 v, takeR s2 v) → (s2.e = 0 → 0 ≤ v) → ∀ w1, RD w1 p s2 → Calls Try.prog 40 #[.pointer (some ⟨p, 0, none⟩), .int .i64 v] w1 (RPost p (.string ⟨out.1.toArray⟩) out.2 w1) := by
    intro s2 ho hv w1 hR
    rw [ho]; exact take_any p s2 v w1 hR hv
  have hcv := fun w => run_toBytes w ⟨out.1.toArray⟩
  by_cases h1 : v < 0
  · have he : s1.e = 0 := by
      by_cases c : s1.e = 0
      · exact c
      · have := hz c; omega
    have CF := fun w1 (hw : RD w1 p s1) => fail_any p s1 4 w1 hw
    have hF : rFail s1 4 = .fail 4 := by unfold rFail; rw [if_pos he]
    rw [hF] at CF
    have CK := key (.fail 4) (by rw [HT0.out, if_pos he, if_pos h1]; simp [takeS, takeR, RS.fail]) (by simp [RS.fail])
    clear key hz hb HT0 he hF
    go_enter Try.func23, Try.ntmps23
    go_wp2_with (first
      | (go_at_call 19; ((with_reducible refine C1.mono ?_); rintro e w1 ⟨rfl, hr, ht⟩; have HT1 := Lib.hid ht; have C2 := CF _ hr; clear hr ht CF C1))
      | (go_at_call 37; ((with_reducible refine C2.mono ?_); rintro e w2 ⟨rfl, hr, ht⟩; have HT2 := Lib.hid ht; have C3 := CK _ hr; clear hr ht CK C2))
      | (go_at_call 40; ((with_reducible refine C3.mono ?_); rintro e w3 ⟨rfl, hr, ht⟩; have HT3 := Lib.hid ht; have HR3 := Lib.hid hr; clear hr ht C3)))
    go_ret
    exact tpost_str HR3.out (HT1.out.trans (HT2.out.trans HT3.out)) _ rfl
  · by_cases h2 : 65536 < v
    · have he : s1.e = 0 := by
        by_cases c : s1.e = 0
        · exact c
        · have := hz c; omega
      have CF := fun w1 (hw : RD w1 p s1) => fail_any p s1 5 w1 hw
      have hF : rFail s1 5 = .fail 5 := by unfold rFail; rw [if_pos he]
      rw [hF] at CF
      have CK := key (.fail 5) (by rw [HT0.out, if_pos he, if_neg h1, if_pos h2]; simp [takeS, takeR, RS.fail]) (by simp [RS.fail])
      clear key hz hb HT0 he hF
      go_enter Try.func23, Try.ntmps23
      go_wp2_with (first
        | (go_at_call 19; ((with_reducible refine C1.mono ?_); rintro e w1 ⟨rfl, hr, ht⟩; have HT1 := Lib.hid ht; have C2 := CF _ hr; clear hr ht CF C1))
        | (go_at_call 37; ((with_reducible refine C2.mono ?_); rintro e w2 ⟨rfl, hr, ht⟩; have HT2 := Lib.hid ht; have C3 := CK _ hr; clear hr ht CK C2))
        | (go_at_call 40; ((with_reducible refine C3.mono ?_); rintro e w3 ⟨rfl, hr, ht⟩; have HT3 := Lib.hid ht; have HR3 := Lib.hid hr; clear hr ht C3)))
      go_ret
      exact tpost_str HR3.out (HT1.out.trans (HT2.out.trans HT3.out)) _ rfl
    · have CK := key s1 (by
        rw [HT0.out]
        by_cases he : s1.e = 0
        · rw [if_pos he, if_neg h1, if_neg h2]
          by_cases hl : (s1.l.length : Int) < v
          · rw [if_pos hl]; unfold takeS takeR; rw [if_neg (by omega), if_pos he, if_neg (by omega)]
          · rw [if_neg hl]; unfold takeS takeR; rw [if_pos ⟨he, by omega⟩, if_pos he, if_pos (by omega)]
        · rw [if_neg he]; unfold takeS takeR; rw [if_neg (fun h => he h.1), if_neg he]) (fun _ => by omega)
      clear key hz hb HT0
      go_enter Try.func23, Try.ntmps23
      go_wp2_with (first
        | (go_at_call 19; ((with_reducible refine C1.mono ?_); rintro e w1 ⟨rfl, hr, ht⟩; have HT1 := Lib.hid ht; have C3 := CK _ hr; clear hr ht CK C1))
        | (go_at_call 40; ((with_reducible refine C3.mono ?_); rintro e w3 ⟨rfl, hr, ht⟩; have HT3 := Lib.hid ht; have HR3 := Lib.hid hr; clear hr ht C3)))
      go_ret
      exact tpost_str HR3.out (HT1.out.trans HT3.out) _ rfl
end Go.Proofs.Ytfhfgninjelfbaa.NumK
