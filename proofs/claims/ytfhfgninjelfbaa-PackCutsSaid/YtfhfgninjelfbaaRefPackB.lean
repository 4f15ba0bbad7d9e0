/- What the law PackWrites wants: the reference's bytes of all items. -/
import Derived.Test.YtfhfgninjelfbaaRefPackA
namespace Go.Proofs.Ytfhfgninjelfbaa.NumK
open Go.RowKit

def wAll (l : List It) : Option (List UInt8) := l.foldl wItem (some [])
theorem wAll_snoc (l : List It) (k : Nat) (hk : k < l.length) : wAll (l.take (k + 1)) = wItem (wAll (l.take k)) (l.getD k default) := by
  unfold wAll
  rw [List.take_succ_eq_append_getElem hk, List.foldl_append]
  simp [List.getD, hk]
theorem wItem_none (x : It) : wItem none x = none := by
  unfold wItem
  split
  · rfl
  · split
    · rfl
    · split <;> rfl

/-- What one more item adds at most. -/
theorem wItem_len {st : Option (List UInt8)} {x : It} {b : Nat} (h : wLen st ≤ b) (hi : IntsIn x.L) (hl : x.L.length ≤ 200) : wLen (wItem st x) ≤ b + 70000 := by
  unfold wItem
  split
  · have := wLen_map (xs := encL x.L) h
    have := encL_len x.L hi
    omega
  · split
    · have := wLen_map (xs := encM x.B) h
      have : (encM x.B).length = 1 := by unfold encM; split <;> rfl
      omega
    · split
      · rename_i ht
        have := wLen_map (xs := encT x.T) h
        have e : (encT x.T).length = (encI (x.T.length : Int)).length + x.T.length := by unfold encT; simp
        have := encI_len (n := (x.T.length : Int)) (by omega) (by omega)
        omega
      · simp [wLen]

/-- Grown in the reference's want: what stands there, and whether all may be written. -/
def Wanted (st : Option (List UInt8)) (ok : Bool) (bs : List UInt8) (k : Nat) : Prop := st = (if ok then some bs else none) ∧ bs.length ≤ 70000 * k
theorem Wanted.more {st : Option (List UInt8)} {ok : Bool} {bs xs : List UInt8} {k : Nat} (h : Wanted st ok bs k) (hx : xs.length ≤ 70000) : Wanted (st.map (· ++ xs)) ok (bs ++ xs) (k + 1) := by
  obtain ⟨rfl, h2⟩ := h
  refine ⟨by cases ok <;> rfl, by simp; omega⟩

def WantPost (l : List It) (w : World) (e : Ending) (w' : World) : Prop := ∃ v ok bs, e = .returned (.tuple #[v, .bool ok]) ∧ w'.ownsRow w.heap.size 5 1 v bs.length (bs.map byv) ∧ wAll l = (if ok then some bs else none) ∧ bs.length ≤ 14000000 ∧ Grew w w'

set_option maxRecDepth 100000 in
set_option maxHeartbeats 2000000 in
theorem want_any (A : Option Addr) (n c : Nat) (l : List It) (w : World) (h : Items w A n l) (hn : n ≤ 200) (hl : ∀ j, j < n → LightIt (l.getD j default)) :
    Calls Try.prog 12 #[.slice A n c] w (WantPost l w) := by
  have HI := Lib.hid h
  have HL := Lib.hid hl
  have HLEN := Lib.hid h.1
  clear h hl
  go_enter Try.func12, Try.ntmps12
  go_wp2
  go_loopw [4, 5, 6] (fun v4 v5 v6 wr => ∃ (k : Nat) (ok : Bool) (bs : List UInt8), v6 = .int .i64 k ∧ k ≤ n ∧ v5 = .bool ok ∧ Hid (Wanted (wAll (l.take k)) ok bs k) ∧ Hid (wr.ownsRow w.heap.size 5 1 v4 bs.length (bs.map byv)) ∧ Hid (Grew w wr)) (fun _ _ v6 _ => n - (intOf v6).toNat)
  case atStart => exact ⟨0, true, [], rfl, Nat.zero_le _, rfl, ⟨rfl, by simp⟩, World.ownsRow_nil _ _ _ _, grew_refl _⟩
  case round =>
    obtain ⟨k, ok, bs, rfl, hk, rfl, HW, HO, HG⟩ := hrel
    by_cases hlt : k < n
    · obtain ⟨b, o, rfl, hb, hc⟩ := (HI.out.keep HG.out).2 (by omega)
      obtain ⟨A1, c1, A2, c2, hp, g0, g1, g2, g3⟩ := hc k hlt
      have hli := HL.out k hlt
      have HS := Lib.hid (wAll_snoc l k (by rw [HLEN.out]; exact hlt))
      generalize l.getD k default = x at *
      have hU : ∃ U : Int, U = IntKind.u64.wrap x.K := ⟨_, rfl⟩
      obtain ⟨U, hU⟩ := hU
      have hU0 : 0 ≤ U := by rw [hU, IntKind.wrap_u64]; omega
      have HK : Hid (kd x.K = U % 3) := by show _ = _; rw [hU]; rfl
      have hKW := hU.symm
      have HBL : Hid (bs.length ≤ 14000000) := by show _ ≤ _; have := HW.out.2; omega
      have HP := Lib.hid hp
      have HLI := Lib.hid hli
      have q1 := hp.le1
      have q2 := hp.le2
      have HT2 := Lib.hid hp.bys.1
      clear hc hp hli hU
      by_cases k0 : U % 3 = 0
      · have HX : Hid (wItem (wAll (l.take k)) x = (wAll (l.take k)).map (· ++ encL x.L)) := by show _ = _; unfold wItem; rw [if_pos (by rw [HK.out]; exact k0)]
        have HC := Lib.hid (refInts_any A1 x.n1 c1 x.L wr HP.out.ints HP.out.intsIn (by have := HLI.out.1; omega))
        have HLL : Hid ((encL x.L).length ≤ 2000) := by show _ ≤ _; have := encL_len x.L HP.out.intsIn; have := HP.out.ints.1; have := HLI.out.1; omega
        clear HK HP HLI
        go_wp2_with (first
          | (go_at_call 32; ((with_reducible refine HC.out.mono ?_); rintro e w1 ⟨v', rfl, ho', hg'⟩; obtain ⟨A3, c3, rfl, hb2, hA2, _⟩ := bys_of_own ho'; have HB2 := Lib.hid hb2; have HA2 := Lib.hid hA2; have HG' := Lib.hid hg'; have HO1 := Lib.hid (ownsRow_keep HO.out hg'); clear ho' hg' hb2 hA2))
          | (at_builtin; refine (wpList_append_bytes rfl _ _ rfl w.heap.size _ bs.length bs rfl HO1.out A3 _ c3 (encL x.L) rfl HA2.out HB2.out (by have := HBL.out; have := HLL.out; omega) (by have := HG.out.size; have := HG'.out.size; omega) ?_); intro v' w' hv' hb'; have HV' := Lib.hid hv'; have HB' := Lib.hid hb'; clear hv' hb'))
        go_roundw
        case rel =>
          refine ⟨k + 1, ok, bs ++ encL x.L, by go_num, by omega, rfl, ?_, ?_, (grew_trans HG.out HG'.out).trans HB'.out⟩
          · show Wanted _ _ _ _
            rw [HS.out, HX.out]; exact HW.out.more (by have := HLL.out; omega)
          · have := HV'.out
            rw [List.length_append]; exact this
        case measure => simp only [intOf]; omega
      · by_cases k1 : U % 3 = 1
        · have HX : Hid (wItem (wAll (l.take k)) x = (wAll (l.take k)).map (· ++ encM x.B)) := by show _ = _; unfold wItem; rw [if_neg (by rw [HK.out]; exact k0), if_pos (by rw [HK.out]; exact k1)]
          have HC := Lib.hid (refMark_any x.B wr)
          have HLL : Hid ((encM x.B).length = 1) := by show _ = _; unfold encM; split <;> rfl
          clear HK HP HLI
          generalize x.B = B at *
          go_wp2_with (first
            | (go_at_call 33; ((with_reducible refine HC.out.mono ?_); rintro e w1 ⟨v', rfl, ho', hg'⟩; obtain ⟨A3, c3, rfl, hb2, hA2, _⟩ := bys_of_own ho'; have HB2 := Lib.hid hb2; have HA2 := Lib.hid hA2; have HG' := Lib.hid hg'; have HO1 := Lib.hid (ownsRow_keep HO.out hg'); clear ho' hg' hb2 hA2))
            | (at_builtin; refine (wpList_append_bytes rfl _ _ rfl w.heap.size _ bs.length bs rfl HO1.out A3 _ c3 (encM B) rfl HA2.out HB2.out (by have := HBL.out; have := HLL.out; omega) (by have := HG.out.size; have := HG'.out.size; omega) ?_); intro v' w' hv' hb'; have HV' := Lib.hid hv'; have HB' := Lib.hid hb'; clear hv' hb'))
          go_roundw
          case rel =>
            refine ⟨k + 1, ok, bs ++ encM B, by go_num, by omega, rfl, ?_, ?_, (grew_trans HG.out HG'.out).trans HB'.out⟩
            · show Wanted _ _ _ _
              rw [HS.out, HX.out]; exact HW.out.more (by have := HLL.out; omega)
            · have := HV'.out
              rw [List.length_append]; exact this
          case measure => simp only [intOf]; omega
        · by_cases kt : 65536 < x.n2
          · have HX : Hid (wItem (wAll (l.take k)) x = none) := by show _ = _; unfold wItem; rw [if_neg (by rw [HK.out]; exact k0), if_neg (by rw [HK.out]; exact k1), if_neg (by rw [HT2.out]; omega)]
            clear HK HP HLI
            generalize x.n2 = n2 at *
            have dt : (65536 : Int) < (n2 : Int) := by omega
            go_wp2
            go_roundw
            case rel =>
              refine ⟨k + 1, false, bs, by go_num, by omega, rfl, ?_, HO, HG⟩
              show Wanted _ _ _ _
              rw [HS.out, HX.out]; exact ⟨rfl, by have := HW.out.2; omega⟩
            case measure => simp only [intOf]; omega
          · have HX : Hid (wItem (wAll (l.take k)) x = (wAll (l.take k)).map (· ++ encT x.T)) := by show _ = _; unfold wItem; rw [if_neg (by rw [HK.out]; exact k0), if_neg (by rw [HK.out]; exact k1), if_pos (by rw [HT2.out]; omega)]
            have HC := Lib.hid (refText_any A2 x.n2 c2 x.T wr HP.out.bys HP.out.nil2 (by omega))
            have HLL : Hid ((encT x.T).length ≤ 65546) := by
              show _ ≤ _
              have e : (encT x.T).length = (encI (x.T.length : Int)).length + x.T.length := by unfold encT; simp
              have h2 := HT2.out
              have := encI_len (n := (x.T.length : Int)) (by omega) (by omega)
              omega
            clear HK HP HLI
            generalize x.n2 = n2 at *
            have dt : ¬ (65536 : Int) < (n2 : Int) := by omega
            go_wp2_with (first
              | (go_at_call 34; ((with_reducible refine HC.out.mono ?_); rintro e w1 ⟨v', rfl, ho', hg'⟩; obtain ⟨A3, c3, rfl, hb2, hA2, _⟩ := bys_of_own ho'; have HB2 := Lib.hid hb2; have HA2 := Lib.hid hA2; have HG' := Lib.hid hg'; have HO1 := Lib.hid (ownsRow_keep HO.out hg'); clear ho' hg' hb2 hA2))
              | (at_builtin; refine (wpList_append_bytes rfl _ _ rfl w.heap.size _ bs.length bs rfl HO1.out A3 _ c3 (encT x.T) rfl HA2.out HB2.out (by have := HBL.out; have := HLL.out; omega) (by have := HG.out.size; have := HG'.out.size; omega) ?_); intro v' w' hv' hb'; have HV' := Lib.hid hv'; have HB' := Lib.hid hb'; clear hv' hb'))
            go_roundw
            case rel =>
              refine ⟨k + 1, ok, bs ++ encT x.T, by go_num, by omega, rfl, ?_, ?_, (grew_trans HG.out HG'.out).trans HB'.out⟩
              · show Wanted _ _ _ _
                rw [HS.out, HX.out]; exact HW.out.more (by have := HLL.out; omega)
              · have := HV'.out
                rw [List.length_append]; exact this
            case measure => simp only [intOf]; omega
    · obtain rfl : k = n := by omega
      have hE : l.take k = l := List.take_of_length_le (by rw [HLEN.out]; omega)
      have HP : Hid (WantPost l w (.returned (.tuple #[u4, .bool ok])) wr) := ⟨u4, ok, bs, rfl, HO.out, by have := HW.out.1; rw [hE] at this; exact this, by have := HW.out.2; omega, HG.out⟩
      clear hE
      go_wp2
      go_ret2
      exact HP.out
end Go.Proofs.Ytfhfgninjelfbaa.NumK
