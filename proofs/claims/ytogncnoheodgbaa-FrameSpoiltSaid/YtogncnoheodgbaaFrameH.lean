/- frame: First. -/
import Derived.Test.YtogncnoheodgbaaFrameG
namespace Go.Proofs.Ytogncnoheodgbaa.NumK
open Go.RowKit

theorem results_tmp5 {fn : Func} {t u v x y : Tmp} (h : fn.results = #[.tmp t, .tmp u, .tmp v, .tmp x, .tmp y]) (tmps : Array Value) (P : Program) (w : World) :
    (results fn tmps).run P w = .ok (.tuple #[tmps.getD t undef, tmps.getD u undef, tmps.getD v undef, tmps.getD x undef, tmps.getD y undef]) w := by
  simp [results, h]

/-- What First tells of the bytes l. -/
def FirstPost (l : List UInt8) (w : World) (e : Ending) (w' : World) : Prop :=
  Grew w w' ∧ ((frs l = none ∧ e = .returned (.tuple #[.int .i64 0, .int .i64 0, .slice none 0 0, .int .i64 0, .int .i64 4])) ∨
    ∃ g m s v, frs l = some (g, m, s) ∧ e = .returned (.tuple #[.int .i64 (g : Int), .int .i64 (m : Int), v, .int .i64 ((21 + s : Nat) : Int), .int .i64 0]) ∧ w'.ownsRow w.heap.size 5 1 v s (((l.drop 21).take s).map byv))

theorem frs_short {l : List UInt8} (h : l.length < 21) : frs l = none := by unfold frs; rw [if_pos (Or.inl h)]
theorem frs_byte {l : List UInt8} (h : l.getD 0 0 ≠ 195) : frs l = none := by unfold frs; rw [if_pos (Or.inr h)]
theorem frs_nums {l : List UInt8} (h : 1099511627776 < num ((l.drop 1).take 8) ∨ 2147483647 < num ((l.drop 9).take 4) ∨ 65536 < num ((l.drop 13).take 4)) : frs l = none := by
  unfold frs
  split
  · rfl
  · first | rfl | rw [if_pos h]
theorem frs_rest {l : List UInt8} (h : l.length < 21 + num ((l.drop 13).take 4) ∨ agreesB (l.take (21 + num ((l.drop 13).take 4))) = false) : frs l = none := by
  unfold frs
  split
  · rfl
  · split
    · rfl
    · rw [if_pos]
      rcases h with h | h
      · exact Or.inl h
      · refine Or.inr ?_
        unfold agreesB msgB at h
        rw [decide_eq_false_iff_not] at h
        generalize num ((l.drop 13).take 4) = s at *
        rw [List.drop_take, List.take_take, List.drop_take, List.take_take, List.drop_take] at h
        rw [show min 4 (21 + s - 17) = 4 by omega, show min 16 (21 + s - 1) = 16 by omega, show 21 + s - 21 = s by omega] at h
        exact h
theorem frs_all {l : List UInt8} {s : Nat} (h21 : 21 ≤ l.length) (h0 : l.getD 0 0 = 195) (h1 : num ((l.drop 1).take 8) ≤ 1099511627776) (h2 : num ((l.drop 9).take 4) ≤ 2147483647) (hs : num ((l.drop 13).take 4) = s) (h3 : s ≤ 65536) (h4 : 21 + s ≤ l.length) (h5 : agreesB (l.take (21 + s)) = true) :
    frs l = some (num ((l.drop 1).take 8), num ((l.drop 9).take 4), s) := by
  unfold frs
  unfold agreesB msgB at h5
  rw [decide_eq_true_iff, List.drop_take, List.take_take, List.drop_take, List.take_take, List.drop_take] at h5
  rw [show min 4 (21 + s - 17) = 4 by omega, show min 16 (21 + s - 1) = 16 by omega, show 21 + s - 21 = s by omega] at h5
  rw [if_neg (by rw [not_or]; exact ⟨by omega, fun h => h h0⟩), hs, if_neg (by omega), if_neg (by rw [not_or]; exact ⟨by omega, fun h => h h5⟩)]

set_option maxRecDepth 100000 in
set_option maxHeartbeats 2000000 in
theorem first_any (A : Option Addr) (n c : Nat) (l : List UInt8) (w : World) (h : Bys w A n l) (hA : A = none → c = 0) (hc : n ≤ c) (hn : c ≤ 9223372036854775807) :
    Calls Try.prog 18 #[.slice A n c] w (FirstPost l w) := by
  have hl := h.1
  by_cases h21 : n < 21
  · have d1 : (n : Int) < 21 := by omega
    have HP : Hid (FirstPost l w (.returned (.tuple #[.int .i64 0, .int .i64 0, .slice none 0 0, .int .i64 0, .int .i64 4])) w) := ⟨grew_refl _, Or.inl ⟨frs_short (by omega), rfl⟩⟩
    clear h hA hc hn hl h21
    go_enter Try.func18, Try.ntmps18
    go_wp2
    (try simp only [Exit.inBlock, Exit.then]); refine bodyPost_ret (results_tmp5 rfl _ _ _) rfl ?_
    exact HP.out
  · obtain ⟨b, o, rfl, _, hcell⟩ := h.2 (by omega)
    have a0 := hcell 0 (by omega)
    rw [Nat.add_zero] at a0
    have d1 : ¬ (n : Int) < 21 := by omega
    by_cases h0 : l.getD 0 0 = 195
    · have hu : (l.getD 0 0).toNat = 195 := by rw [h0]; rfl
      rw [hu] at a0
      have CN1 := Lib.hid (number_any (some ⟨b, o + 1, none⟩) 8 (c - 1) ((l.drop 1).take 8) w ((h.drop (k := 1) (by omega)).take (k := 8) (by omega)) (by omega))
      have CN2 := Lib.hid (number_any (some ⟨b, o + 9, none⟩) 4 (c - 9) ((l.drop 9).take 4) w ((h.drop (k := 9) (by omega)).take (k := 4) (by omega)) (by omega))
      have CN3 := Lib.hid (number_any (some ⟨b, o + 13, none⟩) 4 (c - 13) ((l.drop 13).take 4) w ((h.drop (k := 13) (by omega)).take (k := 4) (by omega)) (by omega))
      obtain ⟨G, hG⟩ : ∃ G : Int, G = ((num ((l.drop 1).take 8) : Nat) : Int) := ⟨_, rfl⟩
      obtain ⟨M, hM⟩ : ∃ M : Int, M = ((num ((l.drop 9).take 4) : Nat) : Int) := ⟨_, rfl⟩
      obtain ⟨s, hs⟩ : ∃ s : Nat, s = num ((l.drop 13).take 4) := ⟨_, rfl⟩
      rw [← hG] at CN1
      rw [← hM] at CN2
      rw [← hs] at CN3
      have j1 : (17 : Int) ≤ (c : Int) := by omega
      have j2 : (9 : Int) ≤ (c : Int) := by omega
      have j3 : (13 : Int) ≤ (c : Int) := by omega
      by_cases k1 : 1099511627776 < G
      · have HP : Hid (FirstPost l w (.returned (.tuple #[.int .i64 0, .int .i64 0, .slice none 0 0, .int .i64 0, .int .i64 4])) w) := ⟨grew_refl _, Or.inl ⟨frs_nums (Or.inl (by omega)), rfl⟩⟩
        clear h hA hc hn hl h21 hcell h0 hu hG hM hs
        go_enter Try.func18, Try.ntmps18
        go_wp2_with (first
          | (go_at_call 24; ((with_reducible refine CN1.out.mono ?_); rintro e w1 ⟨rfl, rfl⟩))
          | (go_at_call 24; ((with_reducible refine CN2.out.mono ?_); rintro e w1 ⟨rfl, rfl⟩))
          | (go_at_call 24; ((with_reducible refine CN3.out.mono ?_); rintro e w1 ⟨rfl, rfl⟩)))
        (try simp only [Exit.inBlock, Exit.then]); refine bodyPost_ret (results_tmp5 rfl _ _ _) rfl ?_
        exact HP.out
      · by_cases k2 : 2147483647 < M
        · have HP : Hid (FirstPost l w (.returned (.tuple #[.int .i64 0, .int .i64 0, .slice none 0 0, .int .i64 0, .int .i64 4])) w) := ⟨grew_refl _, Or.inl ⟨frs_nums (Or.inr (Or.inl (by omega))), rfl⟩⟩
          clear h hA hc hn hl h21 hcell h0 hu hG hM hs
          go_enter Try.func18, Try.ntmps18
          go_wp2_with (first
            | (go_at_call 24; ((with_reducible refine CN1.out.mono ?_); rintro e w1 ⟨rfl, rfl⟩))
            | (go_at_call 24; ((with_reducible refine CN2.out.mono ?_); rintro e w1 ⟨rfl, rfl⟩))
            | (go_at_call 24; ((with_reducible refine CN3.out.mono ?_); rintro e w1 ⟨rfl, rfl⟩)))
          (try simp only [Exit.inBlock, Exit.then]); refine bodyPost_ret (results_tmp5 rfl _ _ _) rfl ?_
          exact HP.out
        · by_cases k3 : 65536 < s
          · have HP : Hid (FirstPost l w (.returned (.tuple #[.int .i64 0, .int .i64 0, .slice none 0 0, .int .i64 0, .int .i64 4])) w) := ⟨grew_refl _, Or.inl ⟨frs_nums (Or.inr (Or.inr (by omega))), rfl⟩⟩
            have k3' : (65536 : Int) < (s : Int) := by omega
            clear h hA hc hn hl h21 hcell h0 hu hG hM hs k3
            go_enter Try.func18, Try.ntmps18
            go_wp2_with (first
              | (go_at_call 24; ((with_reducible refine CN1.out.mono ?_); rintro e w1 ⟨rfl, rfl⟩))
              | (go_at_call 24; ((with_reducible refine CN2.out.mono ?_); rintro e w1 ⟨rfl, rfl⟩))
              | (go_at_call 24; ((with_reducible refine CN3.out.mono ?_); rintro e w1 ⟨rfl, rfl⟩)))
            (try simp only [Exit.inBlock, Exit.then]); refine bodyPost_ret (results_tmp5 rfl _ _ _) rfl ?_
            exact HP.out
          · have k3' : ¬ (65536 : Int) < (s : Int) := by omega
            obtain ⟨N, hN⟩ : ∃ N : Nat, N = 21 + s := ⟨_, rfl⟩
            have w6 : IntKind.i64.wrap (21 + (s : Int)) = (N : Int) := by rw [IntKind.wrap_i64]; omega
            have w7 : IntKind.i64.wrap (s : Int) = (s : Int) := by rw [IntKind.wrap_i64]; omega
            have w8 : IntKind.i64.wrap G = G := by rw [IntKind.wrap_i64]; omega
            have w9 : IntKind.i64.wrap M = M := by rw [IntKind.wrap_i64]; omega
            by_cases k4 : n < N
            · have HP : Hid (FirstPost l w (.returned (.tuple #[.int .i64 0, .int .i64 0, .slice none 0 0, .int .i64 0, .int .i64 4])) w) := ⟨grew_refl _, Or.inl ⟨frs_rest (Or.inl (by omega)), rfl⟩⟩
              have k4' : (n : Int) < (N : Int) := by omega
              clear h hA hc hn hl h21 hcell h0 hu hG hM hs k3 k4 hN
              go_enter Try.func18, Try.ntmps18
              go_wp2_with (first
                | (go_at_call 24; ((with_reducible refine CN1.out.mono ?_); rintro e w1 ⟨rfl, rfl⟩))
                | (go_at_call 24; ((with_reducible refine CN2.out.mono ?_); rintro e w1 ⟨rfl, rfl⟩))
                | (go_at_call 24; ((with_reducible refine CN3.out.mono ?_); rintro e w1 ⟨rfl, rfl⟩)))
              (try simp only [Exit.inBlock, Exit.then]); refine bodyPost_ret (results_tmp5 rfl _ _ _) rfl ?_
              exact HP.out
            · have k4' : ¬ (n : Int) < (N : Int) := by omega
              have i1 : (0 : Int) ≤ (N : Int) := by omega
              have i2 : (N : Int) ≤ (c : Int) := by omega
              have i3 : (21 : Int) ≤ (N : Int) := by omega
              have CA := Lib.hid (agrees_any b o N c (l.take N) w (h.take (by omega)) (by omega) (by omega) hn)
              cases hag : agreesB (l.take N) with
              | false =>
                rw [hag] at CA
                have HP : Hid (∀ w1, Grew w w1 → FirstPost l w (.returned (.tuple #[.int .i64 0, .int .i64 0, .slice none 0 0, .int .i64 0, .int .i64 4])) w1) := fun w1 hg => ⟨hg, Or.inl ⟨frs_rest (Or.inr (by rw [← hs, ← hN]; exact hag)), rfl⟩⟩
                clear h hA hc hn hl h21 hcell h0 hu hG hM hs k3 k4 hN hag
                go_enter Try.func18, Try.ntmps18
                go_wp2_with (first
                  | (go_at_call 24; ((with_reducible refine CN1.out.mono ?_); rintro e w1 ⟨rfl, rfl⟩))
                  | (go_at_call 24; ((with_reducible refine CN2.out.mono ?_); rintro e w1 ⟨rfl, rfl⟩))
                  | (go_at_call 24; ((with_reducible refine CN3.out.mono ?_); rintro e w1 ⟨rfl, rfl⟩))
                  | (go_at_call 25; ((with_reducible refine CA.out.mono ?_); rintro e wx1 ⟨rfl, hg⟩; have HG1 := Lib.hid hg; clear hg)))
                (try simp only [Exit.inBlock, Exit.then]); refine bodyPost_ret (results_tmp5 rfl _ _ _) rfl ?_
                exact HP.out _ HG1.out
              | true =>
                rw [hag] at CA
                have HP : Hid (∀ v2 w1, Grew w w1 → w1.ownsRow w.heap.size 5 1 v2 s (((l.drop 21).take s).map byv) → FirstPost l w (.returned (.tuple #[.int .i64 G, .int .i64 M, v2, .int .i64 (N : Int), .int .i64 0])) w1) :=
                  fun v2 w1 hg ho => ⟨hg, Or.inr ⟨_, _, s, v2, frs_all (by omega) h0 (by omega) (by omega) hs.symm (by omega) (by omega) (by rw [← hN]; exact hag), by rw [hG, hM, hN], ho⟩⟩
                have HB2 : Hid (∀ w1, Grew w w1 → Bys w1 (if c = 21 then some ⟨b, o, none⟩ else some ⟨b, o + 21, none⟩) (N - 21) ((l.drop 21).take (N - 21))) := fun w1 hg => bys_cut (t := 21) (T := N) (h.keep hg) (by omega) (by omega) hc
                have HSUB : Hid (N - 21 = s) := by show _ = _; omega
                have hN9 : N ≤ 70000 := by omega
                have hs9 : s ≤ 65536 := by omega
                clear h hA hc hn hl h21 hcell h0 hu hG hM hs k3 k4 hN hag
                go_enter Try.func18, Try.ntmps18
                go_upto_region 11 with (first
                  | (go_at_call 24; ((with_reducible refine CN1.out.mono ?_); rintro e w1 ⟨rfl, rfl⟩))
                  | (go_at_call 24; ((with_reducible refine CN2.out.mono ?_); rintro e w1 ⟨rfl, rfl⟩))
                  | (go_at_call 24; ((with_reducible refine CN3.out.mono ?_); rintro e w1 ⟨rfl, rfl⟩))
                  | (go_at_call 25; ((with_reducible refine CA.out.mono ?_); rintro e wx1 ⟨rfl, hg⟩; have HG1 := Lib.hid hg; clear hg)))
                go_wp2_with (at_builtin; refine (wpList_append_bytes rfl _ _ rfl w.heap.size (.slice none 0 0) 0 [] rfl (World.ownsRow_nil _ _ _ _) (if c = 21 then some ⟨b, o, none⟩ else some ⟨b, o + 21, none⟩) (N - 21) (c - 21) ((l.drop 21).take (N - 21)) rfl (fun h => (ite_some _ _ h).elim) (HB2.out _ HG1.out) (by omega) HG1.out.size ?_); intro v2 wx2 hv hb; rw [Nat.zero_add, List.nil_append] at hv; have HV2 := Lib.hid hv; have HG2 := Lib.hid (HG1.out.trans hb); clear hv hb)
                all_goals
                  (try simp only [Exit.inBlock, Exit.then]); refine bodyPost_ret (results_tmp5 rfl _ _ _) rfl ?_
                  exact HP.out _ _ HG2.out (by rw [← HSUB.out]; exact HV2.out)
    · have hu : ((l.getD 0 0).toNat : Int) ≠ 195 := by
        intro e
        exact h0 (UInt8.toNat_inj.1 (by show (l.getD 0 0).toNat = 195; omega))
      have HP : Hid (FirstPost l w (.returned (.tuple #[.int .i64 0, .int .i64 0, .slice none 0 0, .int .i64 0, .int .i64 4])) w) := ⟨grew_refl _, Or.inl ⟨frs_byte h0, rfl⟩⟩
      generalize (l.getD 0 0).toNat = u at *
      have d2 : ((u : Int) != 195) = true := by simpa using hu
      clear h hA hc hn hl h21 hcell h0 hu
      go_enter Try.func18, Try.ntmps18
      go_wp2
      (try simp only [Exit.inBlock, Exit.then]); refine bodyPost_ret (results_tmp5 rfl _ _ _) rfl ?_
      exact HP.out
end Go.Proofs.Ytogncnoheodgbaa.NumK
