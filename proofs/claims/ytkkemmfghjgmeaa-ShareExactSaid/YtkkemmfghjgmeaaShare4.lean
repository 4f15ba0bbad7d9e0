/- Contracts of package share: check. -/
import Derived.Test.YtkkemmfghjgmeaaRight
import Derived.Test.YtkkemmfghjgmeaaMem
import Derived.Deep.QuietTactic
import Derived.BigQuiet
namespace Go.Proofs.Ytkkemmfghjgmeaa.NumK
open Go.RowKit

def hasNeg (l : List Int) : Bool := l.any fun x => decide (x < 0)
theorem hasNeg_no {l : List Int} (h : hasNeg l = false) : ∀ x ∈ l, 0 ≤ x := by
  intro x hx
  unfold hasNeg at h
  rw [List.any_eq_false] at h
  have := h x hx
  simp at this; omega
theorem hasNeg_of {l : List Int} {x : Int} (hx : x ∈ l) (h : x < 0) : hasNeg l = true := by
  unfold hasNeg; rw [List.any_eq_true]; exact ⟨x, hx, by simpa using h⟩
theorem hasNeg_take (l : List Int) (k : Nat) (hk : k < l.length) (h : hasNeg (l.take k) = false) (hx : ¬ l.getD k 0 < 0) : hasNeg (l.take (k + 1)) = false := by
  unfold hasNeg at *
  rw [List.take_succ_eq_append_getElem hk, List.any_append, h]
  simp only [List.getD, List.getElem?_eq_getElem hk, Option.getD_some] at hx
  simpa using hx

theorem neg1_any (x : Int) (w : World) : Calls Try.prog 37 #[.int .i64 x] w fun e w' => e = .returned (.bool (decide (x < 0))) ∧ w = w' := by
  go_enter Try.func37, Try.ntmps37
  go_wp2
  go_ret
  exact ⟨rfl, rfl⟩

def AtNeg (l : List Int) (w : World) (e : Ending) (w' : World) : Prop := ∃ r : Int, (0 ≤ r ↔ hasNeg l = true) ∧ -1 ≤ r ∧ e = .returned (.int .i64 r) ∧ w = w'

set_option maxHeartbeats 1000000 in
theorem indexNeg_any (A : Option Addr) (n c : Nat) (zs : List Int) (w : World) (hz : Ints w A n zs) (hn : n ≤ 9223372036854775807) :
    Calls Try.prog 49 #[.slice A n c, .func (.func 37) #[] #[]] w (AtNeg zs w) := by
  have HZ := Lib.hid hz
  clear hz
  go_enter Try.func49, Try.ntmps49
  go_wp2
  go_loop [8, 5] (fun vi v5 => ∃ k : Nat, vi = .int .i64 k ∧ k ≤ n ∧ Hid (hasNeg (zs.take k) = false)) (fun vi _ => n - (intOf vi).toNat)
  case atStart => exact ⟨0, rfl, Nat.zero_le _, rfl⟩
  case round =>
    obtain ⟨k, rfl, hk, HN⟩ := hrel
    by_cases hlt : k < n
    · obtain ⟨b, o, rfl, _, hc⟩ := HZ.out.2 (by omega)
      have hcell := hc k hlt
      have hlen := HZ.out.1
      have HNX := Lib.hid (hasNeg_take zs k (by omega) HN.out)
      have hm : zs.getD k 0 ∈ zs := by rw [List.getD_eq_getElem?_getD, List.getElem?_eq_getElem (by omega)]; exact List.getElem_mem _
      have HY := Lib.hid (fun h => hasNeg_of hm h)
      clear hc hlen hm
      generalize zs.getD k 0 = y at *
      have C := fun w => neg1_any y w
      by_cases hy : y < 0
      · have d1 : decide (y < 0) = true := decide_eq_true hy
        rw [d1] at C
        have HP : Hid (hasNeg zs = true) := HY.out hy
        clear d1 HY HNX
        go_wp2_with (go_at_call 37; ((with_reducible refine (C _).mono ?_); rintro e w' ⟨rfl, rfl⟩))
        go_ret
        exact ⟨k, ⟨fun _ => HP.out, fun _ => by omega⟩, by omega, rfl, rfl⟩
      · have d1 : decide (y < 0) = false := decide_eq_false hy
        rw [d1] at C
        have HP : Hid (hasNeg (zs.take (k + 1)) = false) := HNX.out hy
        clear d1 HY HNX
        go_wp2_with (go_at_call 37; ((with_reducible refine (C _).mono ?_); rintro e w' ⟨rfl, rfl⟩))
        go_round
        case rel => exact ⟨k + 1, by go_num, by omega, HP⟩
        case measure => simp only [intOf]; omega
    · obtain rfl : k = n := by omega
      go_wp2
      go_ret
      refine ⟨-1, ⟨fun h => by omega, fun h => ?_⟩, by omega, rfl, rfl⟩
      have := HN.out
      rw [List.take_of_length_le (by have := HZ.out.1; omega), h] at this
      cases this

theorem containsNeg_any (A : Option Addr) (n c : Nat) (zs : List Int) (w : World) (hz : Ints w A n zs) (hn : n ≤ 9223372036854775807) :
    Calls Try.prog 36 #[.slice A n c, .func (.func 37) #[] #[]] w fun e w' => e = .returned (.bool (hasNeg zs)) ∧ w = w' := by
  have C := indexNeg_any A n c zs w hz hn
  clear hz
  go_enter Try.func36, Try.ntmps36
  go_wp2_with (go_at_call 49; ((with_reducible refine C.mono ?_); rintro e w' ⟨r, hr, hr2, rfl, rfl⟩; have HR := Lib.hid hr; clear hr))
  go_ret
  refine ⟨ret_b ?_, rfl⟩
  have := HR.out
  cases h : hasNeg zs with
  | true => rw [h] at this; exact decide_eq_true (this.2 rfl)
  | false => rw [h] at this; exact decide_eq_false (fun g => by have := this.1 g; cases this)

/-- What check names first. -/
def chkE (T : Int) (l : List Int) : Int := if isMoney T && l.all isMoney && decide (0 ≤ T) && !hasNeg l then (if l.length ≤ 1024 then 0 else 5) else 3

set_option maxHeartbeats 1000000 in
theorem check_any (T : Int) (A : Option Addr) (n c : Nat) (zs : List Int) (w : World) (hz : Ints w A n zs) (hn : n ≤ 9223372036854775807) :
    Calls Try.prog 24 #[.int .i64 T, .slice A n c] w fun e w' => e = .returned (.int .i64 (chkE T zs)) ∧ Grew w w' := by
  have C1 : ∀ w : World, Calls Try.prog 35 #[.slice (some ⟨w.heap.size, 0, none⟩) 1 1] (w.alloc (.cells #[.int .i64 T] 3)) fun e w' => e = .returned (.bool (isMoney T)) ∧ w.alloc (.cells #[.int .i64 T] 3) = w' := fun w => by
    have := right_any (some ⟨w.heap.size, 0, none⟩) 1 1 [T] _ (ints1 w T 3) (by omega)
    simpa using this
  have C2 := right_any A n c zs (w.alloc (.cells #[.int .i64 T] 3)) (hz.keep (grew_alloc _ _ _)) hn
  have C3 := containsNeg_any A n c zs (w.alloc (.cells #[.int .i64 T] 3)) (hz.keep (grew_alloc _ _ _)) hn
  have hlen := hz.1
  have HE : Hid (chkE T zs = if isMoney T && zs.all isMoney && decide (0 ≤ T) && !hasNeg zs then (if n ≤ 1024 then 0 else 5) else 3) := by unfold chkE; rw [hlen]; rfl
  generalize chkE T zs = r at *
  generalize hm : isMoney T = m1 at *
  generalize zs.all isMoney = m2 at *
  generalize hasNeg zs = m3 at *
  clear hz hlen hm
  by_cases h0 : T < 0
  · have d0 : decide (0 ≤ T) = false := decide_eq_false (by omega)
    have HF : Hid (r = 3) := by show _ = _; rw [HE.out, d0]; simp
    clear HE d0
    cases m1 <;> cases m2 <;>
    · go_enter Try.func24, Try.ntmps24
      go_wp2_with (first | (go_at_call 35; ((with_reducible refine (C1 _).mono ?_); rintro e w' ⟨rfl, rfl⟩)) | (go_at_call 35; ((with_reducible refine C2.mono ?_); rintro e w' ⟨rfl, rfl⟩)))
      go_ret
      exact ⟨ret_i HF.out.symm, grew_alloc _ _ _⟩
  · have d0 : decide (0 ≤ T) = true := decide_eq_true (by omega)
    rw [d0] at HE
    clear d0
    cases m1 with
    | false =>
      have HF : Hid (r = 3) := by show _ = _; rw [HE.out]; simp
      clear HE
      go_enter Try.func24, Try.ntmps24
      go_wp2_with (first | (go_at_call 35; ((with_reducible refine (C1 _).mono ?_); rintro e w' ⟨rfl, rfl⟩)) | (go_at_call 35; ((with_reducible refine C2.mono ?_); rintro e w' ⟨rfl, rfl⟩)))
      go_ret
      exact ⟨ret_i HF.out.symm, grew_alloc _ _ _⟩
    | true =>
      cases m2 with
      | false =>
        have HF : Hid (r = 3) := by show _ = _; rw [HE.out]; simp
        clear HE
        go_enter Try.func24, Try.ntmps24
        go_wp2_with (first | (go_at_call 35; ((with_reducible refine (C1 _).mono ?_); rintro e w' ⟨rfl, rfl⟩)) | (go_at_call 35; ((with_reducible refine C2.mono ?_); rintro e w' ⟨rfl, rfl⟩)))
        go_ret
        exact ⟨ret_i HF.out.symm, grew_alloc _ _ _⟩
      | true =>
        cases m3 with
        | true =>
          have HF : Hid (r = 3) := by show _ = _; rw [HE.out]; simp
          clear HE
          go_enter Try.func24, Try.ntmps24
          go_wp2_with (first | (go_at_call 35; ((with_reducible refine (C1 _).mono ?_); rintro e w' ⟨rfl, rfl⟩)) | (go_at_call 35; ((with_reducible refine C2.mono ?_); rintro e w' ⟨rfl, rfl⟩)) | (go_at_call 36; ((with_reducible refine C3.mono ?_); rintro e w' ⟨rfl, rfl⟩)))
          go_ret
          exact ⟨ret_i HF.out.symm, grew_alloc _ _ _⟩
        | false =>
          by_cases h5 : n ≤ 1024
          · have HF : Hid (r = 0) := by show _ = _; rw [HE.out]; simp [h5]
            have k1 : ¬ 1024 < (n : Int) := by omega
            clear HE
            go_enter Try.func24, Try.ntmps24
            go_wp2_with (first | (go_at_call 35; ((with_reducible refine (C1 _).mono ?_); rintro e w' ⟨rfl, rfl⟩)) | (go_at_call 35; ((with_reducible refine C2.mono ?_); rintro e w' ⟨rfl, rfl⟩)) | (go_at_call 36; ((with_reducible refine C3.mono ?_); rintro e w' ⟨rfl, rfl⟩)))
            go_ret
            exact ⟨ret_i HF.out.symm, grew_alloc _ _ _⟩
          · have HF : Hid (r = 5) := by show _ = _; rw [HE.out]; simp [h5]
            have k1 : 1024 < (n : Int) := by omega
            clear HE
            go_enter Try.func24, Try.ntmps24
            go_wp2_with (first | (go_at_call 35; ((with_reducible refine (C1 _).mono ?_); rintro e w' ⟨rfl, rfl⟩)) | (go_at_call 35; ((with_reducible refine C2.mono ?_); rintro e w' ⟨rfl, rfl⟩)) | (go_at_call 36; ((with_reducible refine C3.mono ?_); rintro e w' ⟨rfl, rfl⟩)))
            go_ret
            exact ⟨ret_i HF.out.symm, grew_alloc _ _ _⟩
end Go.Proofs.Ytkkemmfghjgmeaa.NumK
