/- The sort that keeps equals in their order: blocks, then merges. -/
import Derived.Test.YtkkemmfghjgmeaaSortSymC
import Derived.Test.YtkkemmfghjgmeaaSortIns
import Derived.Deep.DeepCutAuto
import Derived.Deep.CutBlock
namespace Go.Proofs.Ytkkemmfghjgmeaa.NumK
open Go.RowKit

theorem symMerge_all (N : Nat) (g : Nat) (cb : Array Value) (cf : Nat → Nat → Int) (f : Nat → Int) (blk n cap : Nat) (w0 : World) (eg : ∀ args w, (callFunc g args).run Try.prog w = .ok (.enter g args) w)
    (hC : CmpOK g cb cf f blk n w0) (hn : n ≤ 1000000) : ∀ (a m b : Nat) (d : Nat → Nat) (w : World), b - a < N → Turn blk w0 w → RowW w blk n d → (∀ k, k < n → d k < n) → Sd f a m d → Sd f m b d → Xs a m b d → a < m → m < b → b ≤ n →
      Calls Try.prog 61 #[.slice (some ⟨blk, 0, none⟩) n cap, .int .i64 a, .int .i64 m, .int .i64 b, .func (.func g) #[] cb] w (SortPost f blk n a b d w0) := by
  induction N with
  | zero => intro a m b d w h; omega
  | succ N ih =>
    intro a m b d w h hT hR hd h1 h2 hx ham hmb hb
    by_cases c1 : m = a + 1
    · subst c1
      have := symA_any g cb cf f blk n cap a b d w0 w eg hC hT hR hd h2 hx hmb hb hn
      rwa [show (a : Int) + 1 = ((a + 1 : Nat) : Int) from by omega] at this
    · by_cases c2 : b = m + 1
      · subst c2
        have := symB_any g cb cf f blk n cap a m d w0 w eg hC hT hR hd h1 hx (by omega) hb hn
        rwa [show (m : Int) + 1 = ((m + 1 : Nat) : Int) from by omega] at this
      · exact symC_any N g cb cf f blk n cap w0 eg hC hn ih a m b d w (by omega) hT hR hd h1 h2 hx (by omega) (by omega) hb

theorem dvd_gap {s a c : Nat} (ha : s ∣ a) (hc : s ∣ c) (h : a < c) : a + s ≤ c := by
  have := Nat.le_of_dvd (by omega) (Nat.dvd_sub hc ha)
  omega

/-- Each block of so many places is sorted, and holds what it held. -/
def Blk (f : Nat → Int) (sz n : Nat) (e : Nat → Nat) : Prop := ∀ c, sz ∣ c → Sd f c (min (c + sz) n) e ∧ Br c e
/-- .. up to a of twice as many, from a on of as many. -/
def Half (f : Nat → Int) (sz n a : Nat) (e : Nat → Nat) : Prop :=
  2 * sz ∣ a ∧ (∀ c, 2 * sz ∣ c → c + 2 * sz ≤ a → Sd f c (c + 2 * sz) e) ∧ (∀ c, sz ∣ c → a ≤ c → Sd f c (min (c + sz) n) e) ∧ (∀ c, 2 * sz ∣ c → Br c e) ∧ (∀ c, sz ∣ c → a ≤ c → Br c e)
/-- .. up to a sorted, from a on as they came. -/
def Begun (f : Nat → Int) (sz a : Nat) (e : Nat → Nat) : Prop :=
  sz ∣ a ∧ (∀ c, sz ∣ c → c + sz ≤ a → Sd f c (c + sz) e) ∧ (∀ c, sz ∣ c → Br c e) ∧ ∀ k, a ≤ k → e k = k

theorem br_id (c : Nat) : Br c (fun k => k) := fun _ => Iff.rfl

theorem begun_next {f : Nat → Int} {sz a : Nat} {e e' : Nat → Nat} (h : Begun f sz a e) (hz : 0 < sz) (hm : Moves a (a + sz) e e') (hs : Sd f a (a + sz) e') : Begun f sz (a + sz) e' := by
  obtain ⟨h1, h2, h3, h4⟩ := h
  refine ⟨(Nat.dvd_add_right h1).2 (Nat.dvd_refl _), fun c hc hl => ?_, fun c hc => ?_, fun k hk => ?_⟩
  · by_cases e1 : c = a
    · subst e1; exact hs
    · have : c + sz ≤ a := by
        rcases Nat.lt_or_ge c a with g | g
        · exact dvd_gap hc h1 g
        · omega
      exact (h2 c hc this).moves_out hm (Or.inl this)
  · refine (h3 c hc).moves hm ?_
    rcases Nat.lt_or_ge a c with g | g
    · exact Or.inr (dvd_gap h1 hc g)
    · exact Or.inl g
  · rw [hm.out k (by omega)]; exact h4 k (by omega)

theorem begun_end {f : Nat → Int} {sz n a : Nat} {e e' : Nat → Nat} (h : Begun f sz a e) (ha : n ≤ a + sz) (han : a ≤ n) (hm : Moves a n e e') (hs : Sd f a n e') : Blk f sz n e' := by
  obtain ⟨h1, h2, h3, h4⟩ := h
  intro c hc
  rcases Nat.lt_trichotomy c a with g | g | g
  · have := dvd_gap hc h1 g
    refine ⟨?_, (h3 c hc).moves hm (Or.inl (by omega))⟩
    rw [show min (c + sz) n = c + sz from by omega]
    exact (h2 c hc this).moves_out hm (Or.inl this)
  · subst g
    refine ⟨?_, (h3 c hc).moves hm (Or.inl (by omega))⟩
    rw [show min (c + sz) n = n from by omega]; exact hs
  · have := dvd_gap h1 hc g
    exact ⟨Sd.one _ _ _ _ (by omega), (h3 c hc).moves hm (Or.inr (by omega))⟩

theorem half_start {f : Nat → Int} {sz n : Nat} {e : Nat → Nat} (h : Blk f sz n e) (hz : 0 < sz) : Half f sz n 0 e :=
  ⟨Nat.dvd_zero _, fun c _ hl => by omega, fun c hc _ => (h c hc).1, fun c hc => (h c (Nat.dvd_trans (Nat.dvd_mul_left _ _) hc)).2, fun c hc _ => (h c hc).2⟩

theorem half_parts {f : Nat → Int} {sz n a : Nat} {e : Nat → Nat} (h : Half f sz n a e) : sz ∣ a ∧ sz ∣ a + sz ∧ Br (a + sz) e := by
  obtain ⟨h1, h2, h3, h4, h5⟩ := h
  have k1 : sz ∣ a := Nat.dvd_trans (Nat.dvd_mul_left _ _) h1
  have k2 : sz ∣ a + sz := (Nat.dvd_add_right k1).2 (Nat.dvd_refl _)
  exact ⟨k1, k2, h5 _ k2 (by omega)⟩
theorem half_two {f : Nat → Int} {sz n a : Nat} {e : Nat → Nat} (h : Half f sz n a e) (hz : 0 < sz) (hb : a + 2 * sz ≤ n) : Sd f a (a + sz) e ∧ Sd f (a + sz) (a + 2 * sz) e ∧ Xs a (a + sz) (a + 2 * sz) e := by
  obtain ⟨k1, k2, k3⟩ := half_parts h
  obtain ⟨h1, h2, h3, h4, h5⟩ := h
  have a1 := h3 a k1 (Nat.le_refl _)
  have a2 := h3 (a + sz) k2 (by omega)
  rw [show min (a + sz) n = a + sz from by omega] at a1
  rw [show min (a + sz + sz) n = a + 2 * sz from by omega] at a2
  exact ⟨a1, a2, k3.xs⟩
theorem half_last {f : Nat → Int} {sz n a : Nat} {e : Nat → Nat} (h : Half f sz n a e) (hb : n ≤ a + 2 * sz) (hm : a + sz ≤ n) : Sd f a (a + sz) e ∧ Sd f (a + sz) n e ∧ Xs a (a + sz) n e := by
  obtain ⟨k1, k2, k3⟩ := half_parts h
  obtain ⟨h1, h2, h3, h4, h5⟩ := h
  have a1 := h3 a k1 (Nat.le_refl _)
  have a2 := h3 (a + sz) k2 (by omega)
  rw [show min (a + sz) n = a + sz from by omega] at a1
  rw [show min (a + sz + sz) n = n from by omega] at a2
  exact ⟨a1, a2, k3.xs⟩

theorem half_next {f : Nat → Int} {sz n a : Nat} {e e' : Nat → Nat} (h : Half f sz n a e) (hz : 0 < sz) (hm : Moves a (a + 2 * sz) e e') (hs : Sd f a (a + 2 * sz) e') : Half f sz n (a + 2 * sz) e' := by
  obtain ⟨h1, h2, h3, h4, h5⟩ := h
  refine ⟨(Nat.dvd_add_right h1).2 (Nat.dvd_refl _), fun c hc hl => ?_, fun c hc hl => (h3 c hc (by omega)).moves_out hm (Or.inr (by omega)), fun c hc => ?_, fun c hc hl => (h5 c hc (by omega)).moves hm (Or.inr hl)⟩
  · by_cases e1 : c = a
    · subst e1; exact hs
    · have : c + 2 * sz ≤ a := by
        rcases Nat.lt_or_ge c a with g | g
        · exact dvd_gap hc h1 g
        · omega
      exact (h2 c hc this).moves_out hm (Or.inl this)
  · refine (h4 c hc).moves hm ?_
    rcases Nat.lt_or_ge a c with g | g
    · exact Or.inr (dvd_gap h1 hc g)
    · exact Or.inl g

theorem half_end {f : Nat → Int} {sz n a : Nat} {e e' : Nat → Nat} (h : Half f sz n a e) (han : a ≤ n) (hb : n ≤ a + 2 * sz) (hm : Moves a n e e') (hs : Sd f a n e') : Blk f (2 * sz) n e' := by
  obtain ⟨h1, h2, h3, h4, h5⟩ := h
  intro c hc
  rcases Nat.lt_trichotomy c a with g | g | g
  · have := dvd_gap hc h1 g
    refine ⟨?_, (h4 c hc).moves hm (Or.inl (by omega))⟩
    rw [show min (c + 2 * sz) n = c + 2 * sz from by omega]
    exact (h2 c hc this).moves_out hm (Or.inl this)
  · subst g
    refine ⟨?_, (h4 c hc).moves hm (Or.inl (by omega))⟩
    rw [show min (c + 2 * sz) n = n from by omega]; exact hs
  · have := dvd_gap h1 hc g
    exact ⟨Sd.one _ _ _ _ (by omega), (h4 c hc).moves hm (Or.inr (by omega))⟩

theorem half_stay {f : Nat → Int} {sz n a : Nat} {e : Nat → Nat} (h : Half f sz n a e) (han : a ≤ n) (hb : n ≤ a + sz) : Blk f (2 * sz) n e := by
  refine half_end h han (by omega) (Moves.refl _ _ _) ?_
  obtain ⟨k1, k2, k3⟩ := half_parts h
  have := h.2.2.1 a k1 (Nat.le_refl _)
  rwa [show min (a + sz) n = n from by omega] at this

set_option maxRecDepth 100000 in
set_option maxHeartbeats 4000000 in
theorem stable_any (g : Nat) (cb : Array Value) (cf : Nat → Nat → Int) (f : Nat → Int) (blk n cap : Nat) (w0 w : World) (eg : ∀ args w, (callFunc g args).run Try.prog w = .ok (.enter g args) w)
    (hC : CmpOK g cb cf f blk n w0) (hT : Turn blk w0 w) (hR : RowW w blk n (fun k => k)) (hn : n ≤ 1000000) :
    Calls Try.prog 55 #[.slice (some ⟨blk, 0, none⟩) n cap, .int .i64 n, .func (.func g) #[] cb] w (SortPost f blk n 0 n (fun k => k) w0) := by
  have SM := Lib.hid (symMerge_all (n + 1) g cb cf f blk n cap w0 eg hC hn)
  have IN := Lib.hid (fun a b d w hT hR hd hu hab hb => insertion_any g cb cf f blk n cap a b d w0 w eg hC hT hR hd hu hab hb hn)
  have HR := Lib.hid hR
  have HT := Lib.hid hT
  clear hC hR hT
  go_enter Try.func55, Try.ntmps55
  go_wp2
  go_loopw [7, 8] (fun va vb wr => ∃ (a : Nat) (e : Nat → Nat), va = .int .i64 a ∧ vb = .int .i64 ((a : Int) + 20) ∧ a ≤ n ∧ Hid (Begun f 20 a e) ∧ Hid (Moves 0 a (fun k => k) e) ∧ Hid (RowW wr blk n e) ∧ Hid (Turn blk w0 wr)) (fun va _ _ => n - (intOf va).toNat)
  case atStart =>
    refine ⟨0, fun k => k, rfl, rfl, Nat.zero_le _, ⟨Nat.dvd_zero _, fun c _ h => by omega, fun c _ => br_id c, fun k _ => rfl⟩, Moves.refl _ _ _, HR, HT⟩
  case round =>
    clear HR HT
    obtain ⟨a, e, rfl, rfl, han, HB, HM, HR, HT⟩ := hrel
    have hd : Hid (∀ k, k < n → e k < n) := HM.out.lt han (fun k hk => hk)
    by_cases hlt : a + 20 ≤ n
    · have C := IN.out a (a + 20) e wr HT.out HR.out hd.out (fun p q h1 h2 h3 => by rw [HB.out.2.2.2 p h1, HB.out.2.2.2 q (by omega)]; exact h2) (by omega) hlt
      rw [show ((a + 20 : Nat) : Int) = (a : Int) + 20 from by omega] at C
      have C := Lib.hid C
      have k1 : (a : Int) + 20 ≤ (n : Int) := by omega
      go_wp2_with (go_at_call 60; ((with_reducible refine C.out.mono ?_); rintro r w2 hP; have HP := Lib.hid hP; clear hP; obtain ⟨rfl, hP2⟩ := HP.out; have HP2 := Lib.hid hP2; clear hP2 HP))
      go_roundw
      case rel =>
        obtain ⟨e2, M2, S2, R2, T2⟩ := HP2.out
        exact ⟨a + 20, e2, by go_num, by go_num, by omega, begun_next HB.out (by omega) M2 S2, (HM.out.mono (Nat.le_refl _) (by omega)).trans (M2.mono (by omega) (Nat.le_refl _)), R2, T2⟩
      case measure => simp only [intOf]; omega
    · have C := IN.out a n e wr HT.out HR.out hd.out (fun p q h1 h2 h3 => by rw [HB.out.2.2.2 p h1, HB.out.2.2.2 q (by omega)]; exact h2) (by omega) (Nat.le_refl _)
      have C := Lib.hid C
      have k1 : ¬ (a : Int) + 20 ≤ (n : Int) := by omega
      go_wp2_with (go_at_call 60; ((with_reducible refine C.out.mono ?_); rintro r w2 hP; have HP := Lib.hid hP; clear hP; obtain ⟨rfl, hP2⟩ := HP.out; have HP2 := Lib.hid hP2; clear hP2 HP))
      have HQ : Hid (∃ e, Blk f 20 n e ∧ Moves 0 n (fun k => k) e ∧ RowW w2 blk n e ∧ Turn blk w0 w2) := by
        obtain ⟨e2, M2, S2, R2, T2⟩ := HP2.out
        exact ⟨e2, begun_end HB.out (by omega) han M2 S2, (HM.out.mono (Nat.le_refl _) (by omega)).trans (M2.mono (by omega) (Nat.le_refl _)), R2, T2⟩
      clear HP2 C HB HM HR HT hd
      go_loopw [6, 7, 8, 9] (fun vs va vb vm wr => ∃ (sz : Nat) (e : Nat → Nat), vs = .int .i64 sz ∧ 0 < sz ∧ sz ≤ 2000000 ∧ Hid (Blk f sz n e) ∧ Hid (Moves 0 n (fun k => k) e) ∧ Hid (RowW wr blk n e) ∧ Hid (Turn blk w0 wr)) (fun vs _ _ _ _ => 2000000 - (intOf vs).toNat)
      case atStart =>
        obtain ⟨e, h1, h2, h3, h4⟩ := HQ.out
        exact ⟨20, e, rfl, by omega, by omega, h1, h2, h3, h4⟩
      case round =>
        clear HQ
        obtain ⟨sz, e, rfl, hz0, hz1, HB, HM, HR, HT⟩ := hrel
        by_cases hlt2 : sz < n
        · have HH : Hid (Half f sz n 0 e) := half_start HB.out hz0
          clear HB
          go_wp2
          go_loopw [7, 8] (fun va vb wr => ∃ (a : Nat) (e : Nat → Nat), va = .int .i64 a ∧ vb = .int .i64 ((a : Int) + 2 * (sz : Int)) ∧ a ≤ n ∧ Hid (Half f sz n a e) ∧ Hid (Moves 0 n (fun k => k) e) ∧ Hid (RowW wr blk n e) ∧ Hid (Turn blk w0 wr)) (fun va _ _ => n - (intOf va).toNat)
          case atStart => exact ⟨0, e, rfl, by congr 1; omega, Nat.zero_le _, HH, HM, HR, HT⟩
          case round =>
            clear HR HT HM HH
            obtain ⟨a2, e, rfl, rfl, han2, HB, HM, HR, HT⟩ := hrel
            have hd : Hid (∀ k, k < n → e k < n) := HM.out.lt (Nat.le_refl _) (fun k hk => hk)
            have c1 : ((a2 + sz : Nat) : Int) = (a2 : Int) + (sz : Int) := by omega
            have c2 : ((a2 + 2 * sz : Nat) : Int) = (a2 : Int) + 2 * (sz : Int) := by omega
            by_cases hlt3 : a2 + 2 * sz ≤ n
            · obtain ⟨p1, p2, p3⟩ := half_two HB.out hz0 hlt3
              have C := SM.out a2 (a2 + sz) (a2 + 2 * sz) e wr (by omega) HT.out HR.out hd.out p1 p2 p3 (by omega) (by omega) hlt3
              rw [c1, c2] at C
              have C := Lib.hid C
              have k1 : (a2 : Int) + 2 * (sz : Int) ≤ (n : Int) := by omega
              clear p1 p2 p3 c1 c2
              go_wp2_with (go_at_call 61; ((with_reducible refine C.out.mono ?_); rintro r w2 hP; have HP := Lib.hid hP; clear hP; obtain ⟨rfl, hP2⟩ := HP.out; have HP2 := Lib.hid hP2; clear hP2 HP))
              go_roundw
              case rel =>
                obtain ⟨e2, M2, S2, R2, T2⟩ := HP2.out
                exact ⟨a2 + 2 * sz, e2, by (congr 1 <;> omega), by (congr 1 <;> omega), by omega, half_next HB.out hz0 M2 S2, HM.out.trans (M2.mono (by omega) (by omega)), R2, T2⟩
              case measure => simp only [intOf]; omega
            · have k1 : ¬ (a2 : Int) + 2 * (sz : Int) ≤ (n : Int) := by omega
              have ez : (sz : Int) * 2 = ((2 * sz : Nat) : Int) := by omega
              have EZ := Lib.hid ez
              clear ez
              by_cases hlt4 : a2 + sz < n
              · obtain ⟨p1, p2, p3⟩ := half_last HB.out (by omega) (by omega)
                have C := SM.out a2 (a2 + sz) n e wr (by omega) HT.out HR.out hd.out p1 p2 p3 (by omega) (by omega) (Nat.le_refl _)
                rw [c1] at C
                have C := Lib.hid C
                have k2 : (a2 : Int) + (sz : Int) < (n : Int) := by omega
                clear p1 p2 p3 c1 c2
                go_wp2_with (go_at_call 61; ((with_reducible refine C.out.mono ?_); rintro r w2 hP; have HP := Lib.hid hP; clear hP; obtain ⟨rfl, hP2⟩ := HP.out; have HP2 := Lib.hid hP2; clear hP2 HP))
                go_roundw
                case rel =>
                  obtain ⟨e2, M2, S2, R2, T2⟩ := HP2.out
                  exact ⟨2 * sz, e2, by rw [EZ.out], by omega, by omega, half_end HB.out han2 (by omega) M2 S2, HM.out.trans (M2.mono (by omega) (Nat.le_refl _)), R2, T2⟩
                case measure => simp only [intOf]; omega
              · have k2 : ¬ (a2 : Int) + (sz : Int) < (n : Int) := by omega
                clear c1 c2
                go_wp2
                go_roundw
                case rel => exact ⟨2 * sz, e, by rw [EZ.out], by omega, by omega, half_stay HB.out han2 (by omega), HM, HR, HT⟩
                case measure => simp only [intOf]; omega
        · go_wp2
          go_end0
          refine ⟨rfl, e, HM.out, ?_, HR.out, HT.out⟩
          have := (HB.out 0 (Nat.dvd_zero _)).1
          rwa [show min (0 + sz) n = n from by omega] at this

theorem sortStable_any (g : Nat) (cb : Array Value) (cf : Nat → Nat → Int) (f : Nat → Int) (blk n cap : Nat) (w0 w : World) (eg : ∀ args w, (callFunc g args).run Try.prog w = .ok (.enter g args) w)
    (hC : CmpOK g cb cf f blk n w0) (hT : Turn blk w0 w) (hR : RowW w blk n (fun k => k)) (hn : n ≤ 1000000) :
    Calls Try.prog 44 #[.slice (some ⟨blk, 0, none⟩) n cap, .func (.func g) #[] cb] w (SortPost f blk n 0 n (fun k => k) w0) := by
  have C := Lib.hid (stable_any g cb cf f blk n cap w0 w eg hC hT hR hn)
  clear hC hT hR
  go_enter Try.func44, Try.ntmps44
  go_wp2_with (go_at_call 55; ((with_reducible refine C.out.mono ?_); rintro r w2 hP; have HP := Lib.hid hP; clear hP; obtain ⟨rfl, hP2⟩ := HP.out; have HP2 := Lib.hid hP2; clear hP2 HP))
  go_end0
  exact ⟨rfl, HP2.out⟩
end Go.Proofs.Ytkkemmfghjgmeaa.NumK
