/- disk: Start. -/
import Derived.Test.YtgaopkfdbglnmaaDiskJ
namespace Go.Proofs.Ytgaopkfdbglnmaa.NumK
open Go.RowKit

theorem dok_start {s : DS} (h : DOK s) : DOK (dStart s) := by
  have hc := crashL_none 0 s.safe s.opn (fun w hw => (h.all.2 w hw).1)
  unfold dStart
  split
  · have hb : ∀ b ∈ crashL [] 0 s.safe s.opn, b.length = 64 := by rw [hc]; exact h.all.1
    have := dok_crash (picks := []) h hb
    exact ⟨this.all, this.pos, this.few, this.arm, (fun e => by cases e), (fun e => by cases e), (fun e => by cases e)⟩
  · exact ⟨h.all, h.pos, h.few, h.arm, (fun e => by simp_all), (fun e => by cases e), (fun e => by cases e)⟩
theorem dStart_off {s : DS} (h : DOK s) (ho : s.off = true) : dStart s = { dCrash s [] with off := false } := by
  unfold dStart
  cases hc : s.cut with
  | true => rfl
  | false =>
    have hi := h.idle ho hc
    have ha := h.off0 ho
    simp only [Bool.false_eq_true, if_false, dCrash, hi]
    cases s
    simp_all [crashL]
theorem dStart_on {s : DS} (h : DOK s) (ho : s.off = false) : dStart s = s := by
  unfold dStart
  cases hc : s.cut with
  | true => have := h.cut hc; rw [ho] at this; cases this
  | false =>
    cases s
    simp_all
theorem start_any (F : Nat → Prop) (q : Nat) (s : DS) (w : World) (h : DK w F q s) (hn : s.opn.length ≤ 1000000) : Calls Try.prog 23 #[.pointer (some ⟨q, 0, none⟩)] w (DPost F q w (.tuple #[]) (dStart s)) := by
  have hD := Lib.hid h
  obtain ⟨C, Y, v, L, H, h1⟩ := h.ex
  have c4 := H.c4
  clear H h1 L
  cases ho : s.off with
  | false =>
    rw [ho] at c4
    rw [dStart_on h.ok ho]
    clear h
    go_enter Try.func23, Try.ntmps23
    go_wp2
    go_end0
    exact ⟨rfl, dk_same hD.out⟩
  | true =>
    rw [ho] at c4
    have CC := Lib.hid (crash_any F q s none 0 0 [] w h (ints0 _ _) (fun a e => by cases e) (by omega) hn)
    have HS := Lib.hid (dStart_off h.ok ho)
    have HOK := Lib.hid (dok_start h.ok)
    have HF := Lib.hid h.fit
    clear h
    go_enter Try.func23, Try.ntmps23
    go_wp2_with (go_at_call 22; ((with_reducible refine CC.out.mono ?_); rintro e w6 ⟨rfl, hc, hd⟩; obtain ⟨C', Y', v', L', H', h1', h2', h3'⟩ := hd.ex; have k4 := H'.c4; have f4 := H'.f4; have HC := Lib.hid hc; have HX := Lib.hid hd.fit; have HL' := Lib.hid L'; have HH' := Lib.hid H'; have H1' := Lib.hid h1'; have H2' := Lib.hid h2'; have H3' := Lib.hid h3'; clear hc hd L' H' h1' h2' h3'))
    go_end0
    rw [HS.out]
    refine dpost_then HF.out HC.out ⟨rfl, dk_head (s := dCrash s []) HX.out HL'.out ((Chg.refl (fun k => k = q) _).setCell ⟨q, 4, none⟩ _ (fun _ => rfl)) ?_ rfl rfl (HH'.out.set4 false) H1'.out H2'.out H3'.out⟩
    rw [← HS.out]; exact HOK.out
end Go.Proofs.Ytgaopkfdbglnmaa.NumK
