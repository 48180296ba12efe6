/-
  The draw of a list of psalm tones, a verse and a melody.
-/
import Derived.Test.YtcmcdomfmmjogaaDpb
import Derived.Test.YtcmcdomfmmjogaaPsl3
import Derived.Test.YtcmcdomfmmjogaaPsr
import Derived.Deep.RegionWith
namespace Go.Proofs.Ytcmcdomfmmjogaa
open Go.RowKit
set_option maxRecDepth 100000
set_option linter.unusedVariables false

/-- a list of psalm tones, a verse and a melody of a draw -/
def DrewPr (w : World) (e : Ending) (w' : World) : Prop :=
  ∃ (v u : Value) (ps : List Psa) (s : ByteArray) (xs : List (Int × Bool)), e = .returned (.tuple #[v, .string s, u]) ∧ PLV w' v ps ∧ LV w' u xs ∧ ps.length ≤ 3 ∧ s.size ≤ 40 ∧ xs.length ≤ 20 ∧ Below w.heap.size w w'

theorem PlI.below6 {w wr w1 : World} {B A q : Nat} {v : Value} {rs : List PE} (h : PlI w wr B A q v rs) (hb : Below wr.heap.size wr w1) : PlI w w1 B A q v rs :=
  ⟨nrow_below h.own hb, fun r hr => ⟨((h.parts r hr).1.below2 hb).lohi (Nat.le_refl _) hb.size, ((h.parts r hr).2.1.below2 hb).lohi (Nat.le_refl _) hb.size, ((h.parts r hr).2.2.below2 hb).lohi (Nat.le_refl _) hb.size⟩, h.rd.below hb, gb_bl h.gb hb⟩

set_option maxHeartbeats 3000000 in
theorem drawPsalmRead_any (a : Option Addr) (n cap : Nat) (w : World) (h : CodeAt w a n) (hc : n ≤ cap) (hcap : cap ≤ maxLen) :
    Calls Try.prog 35 #[.slice a n cap] w (DrewPr w) := by
  go_enter Try.func35, Try.ntmps35
  go_wp2_with (fail)
  (go_at_call 47; refine (open_any a n cap _ h hc hcap).mono ?_; rintro e w1 ⟨A, rfl, hr1, hb1, hs1⟩)
  have hB := hr1.lt
  have z1 := hb1.size
  go_wp2_with (fail)
  (go_at_call 59; refine (l91Psalms_any w.heap.size A 0 (by omega) _ hr1).mono ?_; rintro e w2 ⟨v, rs, rfl, hl, hI⟩)
  have hb2 : Below w.heap.size w w2 := below_gb hb1 hI.gb (by omega)
  have HI := Lib.hid hI
  clear hI hr1
  go_wp2_with (fail)
  (go_at_call 60; refine (l91Verse_any w.heap.size A (0 + 200) (by omega) _ HI.out.rd).mono ?_; rintro e w3 ⟨s, rfl, hs, hr3, hb3⟩)
  have hb3' : Below w.heap.size w w3 := below_gb hb2 hb3 (by omega)
  have HI3 := Lib.hid (HI.out.draw hr3 hb3 hB)
  have hv := HI3.out.view
  clear hr3 hb3 HI hb2 hb1
  obtain ⟨ps, hps⟩ : ∃ ps, rs.map (·.1) = ps := ⟨_, rfl⟩
  have HPS := Lib.hid hps
  rw [hps] at hv
  have hl : ps.length ≤ 3 := by rw [← hps]; simpa using hl
  obtain ⟨pa, pc, rfl, hlen, hat⟩ := hv.at
  have HAT := Lib.hid hat
  have HB3 := Lib.hid hb3'
  have HV := Lib.hid (fun W (hb : Below w3.heap.size w3 W) => hv.below hb)
  have z3 := hb3'.size
  have HMEL := Lib.hid (fun q W (hq : q ≤ 900000) (hr : Rd W w.heap.size A q) => l91Melody_any w.heap.size A q 8 (by omega) hq W hr)
  have HFIN : Hid (∀ {q W W' u xs}, PlI w1 W w.heap.size A q (.slice pa ps.length pc) rs → Below w.heap.size w W → DmInv W W' w.heap.size A (q + 2 * 8 + 4) u xs → xs.length ≤ 8 → DrewPr w (.returned (.tuple #[.slice pa ps.length pc, .string s, u])) W') :=
    fun {q W W' u xs} hI hb hD hx => ⟨_, u, ps, s, xs, rfl, by have := (hI.draw hD.rd hD.gb hB).view; rwa [HPS.out] at this, ⟨_, _, ⟨hD.own, fun g hg => (hD.own.lt g hg).2⟩⟩, hl, hs, by omega, below_gb hb hD.gb (by omega)⟩
  clear hv hat hb3' hps
  by_cases h0 : ps.length = 0
  · have hI0 := HI3.out
    rw [h0] at HFIN hI0 ⊢
    have HI0 := Lib.hid hI0
    clear hI0
    clear HV HAT hlen hl
    go_wp2_with (fail)
    (go_at_call 64; refine (HMEL.out _ _ (by omega) HI0.out.rd).mono ?_; rintro e w4 ⟨u, xs, rfl, hD, hx⟩)
    have HE := Lib.hid (HFIN.out HI0.out HB3.out hD hx)
    clear hD
    go_wp2
    refine bodyPost_ret (v := .tuple #[.slice pa 0 pc, .string s, u]) (by simp only [results, Try.results35]; go_simp) rfl ?_
    exact HE.out
  have hp0 : (0 : Int) < (ps.length : Int) := by omega
  go_wp2_with (fail)
  (go_at_call 63; refine (pick_any 4 w.heap.size A _ (by omega) (by omega) (by omega) _ HI3.out.rd).mono ?_; rintro e w4 ⟨k4, rfl, k40, k41, hr4, hb4⟩)
  have HI4 := Lib.hid (HI3.out.draw hr4 hb4 hB)
  have HB4 := Lib.hid (below_gb HB3.out hb4 (by omega))
  clear hr4 hb4
  by_cases g4 : 0 < k4
  case neg =>
    have e4 : decide (0 < k4) = false := decide_eq_false g4
    go_wp2_with (fail)
    (go_at_call 64; refine (HMEL.out _ _ (by omega) HI4.out.rd).mono ?_; rintro e w5 ⟨u, xs, rfl, hD, hx⟩)
    have HE := Lib.hid (HFIN.out HI4.out HB4.out hD hx)
    clear hD
    go_wp2
    refine bodyPost_ret (v := .tuple #[.slice pa ps.length pc, .string s, u]) (by simp only [results, Try.results35]; go_simp) rfl ?_
    exact HE.out
  have e4 : decide (0 < k4) = true := decide_eq_true g4
  go_wp2_with (fail)
  (go_at_call 63; refine (pick_any (ps.length : Int) w.heap.size A _ (by omega) (by omega) (by omega) _ HI4.out.rd).mono ?_; rintro e w5 ⟨k5, rfl, k50, k51, hr5, hb5⟩)
  have HI5 := Lib.hid (HI4.out.draw hr5 hb5 hB)
  have HB5 := Lib.hid (below_gb HB4.out hb5 (by omega))
  obtain ⟨j, rfl⟩ : ∃ j : Nat, k5 = (j : Int) := ⟨k5.toNat, by omega⟩
  clear hr5 hb5
  obtain ⟨p, hp⟩ := ps_get (ps := ps) (k := j) (by omega)
  have hv5 := HI5.out.view
  rw [HPS.out] at hv5
  obtain ⟨pa', pc', ea, _, hat5⟩ := hv5.at
  injection ea with ea1 ea2 ea3
  subst ea1
  clear ea2 ea3
  obtain ⟨A5, off, b0, b1, b2, d0, d1, d2, rfl, hA, c0, c1, c2, c3, c4, hpv⟩ := hat5 j p hp
  have KS := Lib.hid (sPsalmSing_any _ p s (by omega) w5 hpv)
  unfold TB2 at KS
  have hLL := psL_len p s
  clear hat5 hpv hp hv5
  generalize p.st.length = q0 at *
  generalize p.mi.length = q1 at *
  generalize p.en.length = q2 at *
  generalize psL p s = ys at *
  cases hok : pfit p s with
  | true =>
    rw [hok] at KS
    go_wp2_with (fail)
    (go_at_call 16; refine (KS.out).mono ?_; rintro e w6 ⟨u, rfl, hu, hb6⟩)
    have HE : Hid (DrewPr w (.returned (.tuple #[.slice (some ⟨A5, off, none⟩) ps.length pc, .string s, u])) w6) := ⟨_, u, ps, s, ys, rfl, by have := HI5.out.view.below hb6; rwa [HPS.out] at this, ⟨_, _, hu⟩, hl, hs, hLL, bl_step HB5.out hb6⟩
    clear hu hb6 hok
    go_wp2
    refine bodyPost_ret (v := .tuple #[.slice (some ⟨A5, off, none⟩) ps.length pc, .string s, u]) (by simp only [results, Try.results35]; go_simp) rfl ?_
    exact HE.out
  | false =>
    rw [hok] at KS
    go_wp2_with (fail)
    (go_at_call 16; refine (KS.out).mono ?_; rintro e w6 ⟨u, rfl, hu, hb6⟩)
    have HI6 := Lib.hid (HI5.out.below6 hb6)
    have HB6 := Lib.hid (bl_step HB5.out hb6)
    clear hu hb6 hok
    go_wp2_with (fail)
    (go_at_call 64; refine (HMEL.out _ _ (by omega) HI6.out.rd).mono ?_; rintro e w7 ⟨u7, xs, rfl, hD, hx⟩)
    have HE := Lib.hid (HFIN.out HI6.out HB6.out hD hx)
    clear hD
    go_wp2
    refine bodyPost_ret (v := .tuple #[.slice (some ⟨A5, off, none⟩) ps.length pc, .string s, u7]) (by simp only [results, Try.results35]; go_simp) rfl ?_
    exact HE.out
end Go.Proofs.Ytcmcdomfmmjogaa
