/- The reference's bytes: Int, Ints, Mark, Text. -/
import Derived.Test.YtfhfgninjelfbaaPackH
namespace Go.Proofs.Ytfhfgninjelfbaa.NumK
open Go.RowKit

/-- Bytes in a row of the call's own. -/
def OwnPost (l : List UInt8) (w : World) (e : Ending) (w' : World) : Prop := ∃ v, e = .returned v ∧ w'.ownsRow w.heap.size 5 1 v l.length (l.map byv) ∧ Grew w w'

theorem ownsRow_keep {w w' : World} {base : Nat} {e : TypeId} {v : Value} {n : Nat} {xs : List Value} (h : w.ownsRow base e 1 v n xs) (g : Grew w w') : w'.ownsRow base e 1 v n xs := by
  refine ⟨h.1, ?_⟩
  rcases h.2 with hn | ⟨g', cap, cur, hv, hb, hh, rest⟩
  · exact .inl hn
  · exact .inr ⟨g', cap, cur, hv, hb, by rw [g.block _ (own_at_lt hh)]; exact hh, rest⟩

theorem hi_u8 (z : Nat) (u : UInt8) (hu : u = UInt8.ofNat (z % 128 + 128)) : (z : Int) % 128 + 128 = (u.toNat : Int) := by
  subst hu; rw [u8_ofNat (by omega)]; omega

theorem zig_ref {n : Int} (h1 : -9223372036854775808 ≤ n) (h2 : n ≤ 9223372036854775807) : (0 ≤ n → n * 2 = ((zig n : Nat) : Int)) ∧ (n < 0 → IntKind.u64.wrap (-(n + 1)) = -(n + 1) ∧ IntKind.u64.wrap (-(n + 1) * 2) = -(n + 1) * 2 ∧ -(n + 1) * 2 + 1 = ((zig n : Nat) : Int)) := by
  refine ⟨fun h => zig_lo h, fun h => ⟨by rw [IntKind.wrap_u64]; omega, by rw [IntKind.wrap_u64]; omega, by unfold zig; rw [if_pos h]; omega⟩⟩

set_option maxRecDepth 100000 in
set_option maxHeartbeats 1000000 in
theorem refInt_any (n : Int) (h1 : -9223372036854775808 ≤ n) (h2 : n ≤ 9223372036854775807) (w : World) :
    Calls Try.prog 43 #[.int .i64 n] w (OwnPost (encI n) w) := by
  have HL := Lib.hid (encI_len h1 h2)
  have HE : Hid (encI n = vb (zig n)) := rfl
  have hz := zig_lt h1 h2
  obtain ⟨p1, p2⟩ := zig_ref h1 h2
  generalize encI n = E at *
  generalize zig n = Z at *
  have HP1 := Lib.hid p1
  have HP2 := Lib.hid p2
  clear p1 p2
  by_cases h : n < 0
  case' pos => obtain ⟨e1, e2, e3⟩ := HP2.out h
  case' neg => have e1 := HP1.out (by omega)
  all_goals
    clear HP1 HP2
    go_enter Try.func43, Try.ntmps43
    go_wp2
    go_loopw [3, 4] (fun v3 v4 wr => ∃ (z : Nat) (d : List UInt8), v3 = .int .u64 z ∧ z ≤ Z ∧ Hid (E = d ++ vb z) ∧ Hid (wr.ownsRow w.heap.size 5 1 v4 d.length (d.map byv)) ∧ Hid (Grew w wr)) (fun v3 _ _ => (intOf v3).toNat)
    case atStart => exact ⟨Z, [], rfl, Nat.le_refl _, HE, World.ownsRow_nil _ _ _ _, grew_refl _⟩
    case round =>
      obtain ⟨z, d, rfl, hz2, HD, HR, HG⟩ := hrel
      have hl : Hid (d.length + (vb z).length ≤ 10) := by show _ ≤ _; have := HL.out; rw [HD.out] at this; simpa using this
      clear h1 h2 h e1 HE
      by_cases hc : z < 128
      · have hw := low_u8 z hc
        have hv := Lib.hid (vb_lo hc)
        generalize UInt8.ofNat z = u at *
        go_wp2_with (at_builtin; refine (wpList_append_bytes rfl _ _ rfl w.heap.size _ d.length d rfl (HR.out.alloc _) (some ⟨wr.heap.size, 0, none⟩) 1 1 [u] rfl (by intro h; cases h) (bys1 _ u _ _ rfl) (by have := hl.out; omega) (by have := HG.out.size; simp; omega) ?_); intro v' w' hv' hb'; have HV' := Lib.hid hv'; have HB' := Lib.hid hb'; clear hv' hb')
        go_ret
        refine ⟨v', rfl, ?_, (Below.alloc HG.out HG.out.size _).trans HB'.out⟩
        have := HV'.out
        rw [HD.out, hv.out]
        simpa using this
      · have hw := hi_u8 z _ rfl
        have hv := Lib.hid (vb_hi hc)
        generalize UInt8.ofNat (z % 128 + 128) = u at *
        go_wp2_with (at_builtin; refine (wpList_append_bytes rfl _ _ rfl w.heap.size _ d.length d rfl (HR.out.alloc _) (some ⟨wr.heap.size, 0, none⟩) 1 1 [u] rfl (by intro h; cases h) (bys1 _ u _ _ rfl) (by have := hl.out; omega) (by have := HG.out.size; simp; omega) ?_); intro v' w' hv' hb'; have HV' := Lib.hid hv'; have HB' := Lib.hid hb'; clear hv' hb')
        go_roundw
        case rel =>
          refine ⟨z / 128, d ++ [u], rfl, by omega, by have := HD.out; rw [hv.out] at this; simpa [Hid] using this, ?_, (Below.alloc HG.out HG.out.size _).trans HB'.out⟩
          have := HV'.out
          simpa [Hid] using this
        case measure => simp only [intOf]; omega

set_option maxHeartbeats 1000000 in
theorem refInts_any (A : Option Addr) (n c : Nat) (zs : List Int) (w : World) (hz : Ints w A n zs) (hi : IntsIn zs) (hn : n ≤ 1000) :
    Calls Try.prog 32 #[.slice A n c] w (OwnPost (encL zs) w) := by
  have HZ := Lib.hid hz
  have HI := Lib.hid hi
  clear hz hi
  go_enter Try.func32, Try.ntmps32
  go_wp2
  go_loopw [3, 4] (fun v3 v4 wr => ∃ k : Nat, v4 = .int .i64 k ∧ k ≤ n ∧ Hid (wr.ownsRow w.heap.size 5 1 v3 (encL (zs.take k)).length ((encL (zs.take k)).map byv)) ∧ Hid (Grew w wr)) (fun _ v4 _ => n - (intOf v4).toNat)
  case atStart => exact ⟨0, rfl, Nat.zero_le _, World.ownsRow_nil _ _ _ _, grew_refl _⟩
  case round =>
    obtain ⟨k, rfl, hk, HO, HG⟩ := hrel
    by_cases hlt : k < n
    · obtain ⟨b, o, rfl, hb, hc⟩ := (HZ.out.keep HG.out).2 (by omega)
      have hcell := hc k hlt
      have hlen := HZ.out.1
      obtain ⟨y1, y2⟩ := HI.out.at (k := k) (by omega)
      have HT := Lib.hid (encL_take (zs := zs) (k := k) (by omega))
      have HB := Lib.hid (encL_take_len HI.out k)
      clear hc hlen
      generalize zs.getD k 0 = y at *
      have HC := Lib.hid (refInt_any y y1 y2 wr)
      have HEL := Lib.hid (encI_len y1 y2)
      clear y1 y2
      go_wp2_with (first
        | (go_at_call 43; ((with_reducible refine HC.out.mono ?_); rintro e w1 ⟨v', rfl, ho', hg'⟩; obtain ⟨A2, c2, rfl, hb2, hA2, _⟩ := bys_of_own ho'; have HB2 := Lib.hid hb2; have HA2 := Lib.hid hA2; have HG' := Lib.hid hg'; have HO1 := Lib.hid (ownsRow_keep HO.out hg'); clear ho' hg' hb2 hA2))
        | (at_builtin; refine (wpList_append_bytes rfl _ _ rfl w.heap.size _ (encL (zs.take k)).length (encL (zs.take k)) rfl HO1.out A2 _ c2 (encI y) rfl HA2.out HB2.out (by have := HB.out; have := HEL.out; omega) (by have := HG.out.size; have := HG'.out.size; omega) ?_); intro v' w' hv' hb'; have HV' := Lib.hid hv'; have HB' := Lib.hid hb'; clear hv' hb'))
      go_roundw
      case rel =>
        refine ⟨k + 1, by go_num, by omega, ?_, (grew_trans HG.out HG'.out).trans HB'.out⟩
        have := HV'.out
        rw [HT.out, List.length_append]
        exact this
      case measure => simp only [intOf]; omega
    · obtain rfl : k = n := by omega
      have hE : zs.take k = zs := List.take_of_length_le (by rw [HZ.out.1]; omega)
      have ho := HO.out
      rw [hE] at ho
      have HP : Hid (OwnPost (encL zs) w (.returned u3) wr) := ⟨_, rfl, ho, HG.out⟩
      clear hE ho
      go_wp2
      go_ret
      exact HP.out

theorem refMark_any (b : Bool) (w : World) : Calls Try.prog 33 #[.bool b] w (OwnPost (encM b) w) := by
  have HP : ∀ (x : Int) (u : UInt8), x = u.toNat → Hid (OwnPost [u] w (.returned (.slice (some ⟨w.heap.size, 0, none⟩) 1 1)) (w.alloc (.cells #[.int .u8 x] 5))) := fun x u hx =>
    ⟨_, rfl, ⟨rfl, Or.inr ⟨w.heap.size, 1, #[.int .u8 x], rfl, Nat.le_refl _, heap_alloc_new w _, Nat.le_refl _, by decide, rfl, by simp [byv, hx]⟩⟩, grew_alloc _ _ _⟩
  cases b with
  | true =>
    have HQ := HP 1 1 rfl
    clear HP
    go_enter Try.func33, Try.ntmps33
    go_wp2
    go_ret
    exact HQ.out
  | false =>
    have HQ := HP 0 0 rfl
    clear HP
    go_enter Try.func33, Try.ntmps33
    go_wp2
    go_ret
    exact HQ.out

theorem refText_any (A : Option Addr) (n c : Nat) (t : List UInt8) (w : World) (hb : Bys w A n t) (hA : A = none → c = 0) (hn : n ≤ 65536) :
    Calls Try.prog 34 #[.slice A n c] w (OwnPost (encT t) w) := by
  have HB := Lib.hid hb
  have HA := Lib.hid hA
  have HEL := Lib.hid (encI_len (n := (n : Int)) (by omega) (by omega))
  have HC := Lib.hid (refInt_any (n : Int) (by omega) (by omega) w)
  have HT : Hid (encT t = encI (n : Int) ++ t) := by show _ = _; unfold encT; rw [hb.1]
  have HTL := Lib.hid hb.1
  clear hb hA
  go_enter Try.func34, Try.ntmps34
  go_wp2_with (first
    | (go_at_call 43; ((with_reducible refine HC.out.mono ?_); rintro e w1 ⟨v', rfl, ho', hg'⟩; have HO' := Lib.hid ho'; have HG' := Lib.hid hg'; clear ho' hg'))
    | (at_builtin; refine (wpList_append_bytes rfl _ _ rfl w.heap.size _ (encI (n : Int)).length (encI (n : Int)) rfl HO'.out A n c t rfl HA.out (HB.out.keep HG'.out) (by have := HEL.out; omega) HG'.out.size ?_); intro v2 w2 hv2 hb2; have HV2 := Lib.hid hv2; have HB2 := Lib.hid hb2; clear hv2 hb2))
  go_ret
  refine ⟨_, rfl, ?_, HG'.out.trans HB2.out⟩
  have := HV2.out
  rw [HT.out, List.length_append, HTL.out]
  exact this
end Go.Proofs.Ytfhfgninjelfbaa.NumK
