/-
  The exact law of ToneNames: for every tone the function answers as its model.
-/
import Derived.Test.YtjodcaeohkjlnaaDoorTni
import Derived.Test.YtjodcaeohkjlnaaDoorTns
import Derived.Test.YtjodcaeohkjlnaaDoorOpen
import Derived.Test.YtjodcaeohkjlnaaDoorCards
import Derived.Test.YtjodcaeohkjlnaaDoorTie
import Derived.Test.YtjodcaeohkjlnaaDoorLaid1
import Derived.ChangeMaps5
namespace Go.Proofs.YtjodcaeohkjlnaaDoor
open Go.RowKit Go.ChangeShapes Go.WideShapes Go.ChangeAt Go.ChangeMaps
set_option maxRecDepth 100000
set_option linter.unusedVariables false

theorem toneNames_at (s : Int) (b : Bool) (w0 : World) (ht : SylTab w0) (w : World) (hb : Below w0.heap.size w0 w) :
    Calls Tryd.prog 40 #[.agg #[.int .i64 s, .bool b]] w fun e w' => e = .returned (.string (tnm s b)) ∧ Below w.heap.size w w' := toneNames_any s b w (ht.below hb)

theorem exToneNames_walk (s : Int) (b : Bool) (w : World) (ht : SylTab w) :
    Calls Tryd.prog 16 #[.agg #[.int .i64 s, .bool b]] w fun e w' => e = .returned (.bool true) ∧ Below w.heap.size w w' := by
  have HT := Lib.hid ht
  clear ht
  have KS := Lib.hid (fun W => sToneNames_any s b W)
  have KI := Lib.hid (fun W h => toneNames_at s b w HT.out W h)
  generalize tnm s b = o at KS KI
  have hss : (o.toList != o.toList) = false := by simp
  go_enter Tryd.func16, Tryd.ntmps16
  go_wp2_with (fail)
  (go_at_call 67; refine (toTone_any _ _ _).mono ?_; rintro e w1 ⟨rfl, hb1⟩; obtain ⟨hc1, hf1, hz1⟩ := bl hb1; (try simp at hz1); (try (refine got (p := w.heap.size < w1.heap.size) ?_ ?_; (focus (go_size; done)); intro q1_w0)); (try (refine got (p := w1.cell? ⟨w.heap.size, 0, none⟩ = some (.int .i64 s)) ?_ ?_; (focus (refine (hc1 _ _ ?_).trans ?_; (focus (go_size; done)); go_simp; done)); intro c1_w0_0)); (try (refine got (p := w1.cell? ⟨w.heap.size, 1, none⟩ = some (.bool b)) ?_ ?_; (focus (refine (hc1 _ _ ?_).trans ?_; (focus (go_size; done)); go_simp; done)); intro c1_w0_1)); (try (refine got (p := ∀ o, w1.frozen? ⟨w.heap.size, o, none⟩ = false) ?_ ?_; (focus (intro o; refine (hf1 _ _ ?_).trans ?_; (focus (go_size; done)); go_simp; done)); intro f1_w0)); clear hc1 hf1)
  go_wp2_with (fail)
  (go_at_call 68; refine (KS.out _).mono ?_; rintro e w2 ⟨rfl, hb2⟩; obtain ⟨hc2, hf2, hz2⟩ := bl hb2; (try simp at hz2); (try (refine got (p := w.heap.size < w2.heap.size) ?_ ?_; (focus (go_size; done)); intro q2_w0)); (try (refine got (p := w2.cell? ⟨w.heap.size, 0, none⟩ = some (.int .i64 s)) ?_ ?_; (focus (refine (hc2 _ _ ?_).trans ?_; (focus (go_size; done)); go_simp; done)); intro c2_w0_0)); (try (refine got (p := w2.cell? ⟨w.heap.size, 1, none⟩ = some (.bool b)) ?_ ?_; (focus (refine (hc2 _ _ ?_).trans ?_; (focus (go_size; done)); go_simp; done)); intro c2_w0_1)); (try (refine got (p := ∀ o, w2.frozen? ⟨w.heap.size, o, none⟩ = false) ?_ ?_; (focus (intro o; refine (hf2 _ _ ?_).trans ?_; (focus (go_size; done)); go_simp; done)); intro f2_w0)); clear hc2 hf2)
  go_wp2_with (fail)
  (go_at_call 67; refine (toTone_any _ _ _).mono ?_; rintro e w3 ⟨rfl, hb3⟩; obtain ⟨hc3, hf3, hz3⟩ := bl hb3; (try simp at hz3); (try (refine got (p := w.heap.size < w3.heap.size) ?_ ?_; (focus (go_size; done)); intro q3_w0)); (try (refine got (p := w3.cell? ⟨w.heap.size, 0, none⟩ = some (.int .i64 s)) ?_ ?_; (focus (refine (hc3 _ _ ?_).trans ?_; (focus (go_size; done)); go_simp; done)); intro c3_w0_0)); (try (refine got (p := w3.cell? ⟨w.heap.size, 1, none⟩ = some (.bool b)) ?_ ?_; (focus (refine (hc3 _ _ ?_).trans ?_; (focus (go_size; done)); go_simp; done)); intro c3_w0_1)); (try (refine got (p := ∀ o, w3.frozen? ⟨w.heap.size, o, none⟩ = false) ?_ ?_; (focus (intro o; refine (hf3 _ _ ?_).trans ?_; (focus (go_size; done)); go_simp; done)); intro f3_w0)); clear hc3 hf3)
  go_wp2_with (fail)
  (go_at_call 40; refine (KI.out _ (by (repeat' (first | (with_reducible exact Below.refl _ _) | (with_reducible refine Below.alloc ?_ ?_ _) | (with_reducible refine Below.drew ?_) | (with_reducible refine Below.setCell ?_ ?_ _) | (with_reducible refine bl_step ?_ (by assumption)) | go_size)))).mono ?_; rintro e w4 ⟨rfl, hb4⟩; obtain ⟨hc4, hf4, hz4⟩ := bl hb4; (try simp at hz4); (try (refine got (p := w.heap.size < w4.heap.size) ?_ ?_; (focus (go_size; done)); intro q4_w0)); (try (refine got (p := w4.cell? ⟨w.heap.size, 0, none⟩ = some (.int .i64 s)) ?_ ?_; (focus (refine (hc4 _ _ ?_).trans ?_; (focus (go_size; done)); go_simp; done)); intro c4_w0_0)); (try (refine got (p := w4.cell? ⟨w.heap.size, 1, none⟩ = some (.bool b)) ?_ ?_; (focus (refine (hc4 _ _ ?_).trans ?_; (focus (go_size; done)); go_simp; done)); intro c4_w0_1)); (try (refine got (p := ∀ o, w4.frozen? ⟨w.heap.size, o, none⟩ = false) ?_ ?_; (focus (intro o; refine (hf4 _ _ ?_).trans ?_; (focus (go_size; done)); go_simp; done)); intro f4_w0)); clear hc4 hf4)
  go_wp2
  go_ret
  exact ⟨rfl, by (repeat' (first | (with_reducible exact Below.refl _ _) | (with_reducible refine Below.alloc ?_ ?_ _) | (with_reducible refine Below.drew ?_) | (with_reducible refine Below.setCell ?_ ?_ _) | (with_reducible refine bl_step ?_ (by assumption)) | go_size))⟩

noncomputable def fnExactToneNames_world (os : Os) : World := { World.holding Tryd.prog os ⟨#[], #[], []⟩ with heap := ((World.holding Tryd.prog os ⟨#[], #[], []⟩).heap.modify 0 fun | .cells _ t frozen => .cells #[.string ⟨#[117, 116]⟩, .string ⟨#[114, 101]⟩, .string ⟨#[109, 105]⟩, .string ⟨#[102, 97]⟩, .string ⟨#[115, 111, 108]⟩, .string ⟨#[108, 97]⟩] t frozen | o => o) }
theorem fnExactToneNames_met (os : Os) : laidMet Tryd.prog Rows.fnExactToneNamesRow.laid ((fnExactToneNames_world os).forCall (fun _ _ => 0) ⟨#[], #[.agg #[.int .i64 0, .bool false]], []⟩).memory :=
  laidMet_of_run' 8 (by kernel_rfl) (by kernel_rfl)
theorem fnExactToneNames_reads (os : Os) {H : Type} (enc : TypeId × Value → H) : ∃ places, DataW.whole enc Tryd.prog ((fnExactToneNames_world os).forCall (fun _ _ => 0) ⟨#[], #[.agg #[.int .i64 0, .bool false]], []⟩).memory Tryd.f16.params.toList Rows.fnExactToneNamesSpec.vars false (#[.agg #[.int .i64 0, .bool false]] : Array Value).toList 8 = some ([.agg [.lit (.int .i64 0), .lit (.bool false)]], [Rows.laid_loop_example_neumes_impl_syllableNames], places) :=
  ⟨((DataW.whole enc Tryd.prog ((fnExactToneNames_world os).forCall (fun _ _ => 0) ⟨#[], #[.agg #[.int .i64 0, .bool false]], []⟩).memory Tryd.f16.params.toList Rows.fnExactToneNamesSpec.vars false (#[.agg #[.int .i64 0, .bool false]] : Array Value).toList 8).getD ([], [], [])).2.2, by kernel_rfl⟩
set_option maxRecDepth 100000 in
theorem fnExactToneNames_lifted (os : Os) (started : os.Started) (H : Type) (enc : TypeId × Value → H) (F : Stop.Interp) :
    ReturnsInHanded {} Tryd.checked os 16 .any ((OpenSpec.ofChange Rows.fnExactToneNamesSpec).preRow enc Tryd.prog Tryd.f16 Rows.fnExactToneNamesRow.domain false Rows.fnExactToneNamesRow.laid) (((OpenSpec.ofChange Rows.fnExactToneNamesSpec).at F).post enc Tryd.prog Tryd.f16 false true false false) := by
  obtain ⟨places, hx⟩ := fnExactToneNames_reads os enc
  refine returnsInHanded_of_row (C := Tryd.checked) (s := OpenSpec.ofChange Rows.fnExactToneNamesSpec) own started (by kernel_rfl) Tryd.func16
    (witness_row_at (enc := enc) (C := Tryd.checked) false (fnExactToneNames_world os) #[.agg #[.int .i64 0, .bool false]] rfl (by kernel_rfl) (by kernel_rfl) (by kernel_rfl)
      (OpenSpec.preRow_of_cond 8 hx (by kernel_rfl) (fun k hk => by cases hk) (by kernel_rfl) (fnExactToneNames_met os))) ?_
  intro W base args ds gs before hval0 hW _ _ _ hL _ _
  have hval : ∀ (j : Nat) t v, Tryd.f16.params[j]? = some t → args[j]? = some v → Value.okWide Tryd.prog W .any base t v := hval0
  have hW' := hW
  obtain ⟨p, q, hA0, hV, rfl, _, _⟩ := hW
  have hA : DataW.TrodAll enc Tryd.prog W 0 (fun _ => true) true Tryd.f16.params.toList args.toList ds p := hA0
  rw [Tryd.params16] at hA hval
  obtain ⟨v0, vs0, d0, ds0, p0, q0, hargs, rfl, rfl, h0, r0⟩ := trodAll_cons hA
  obtain ⟨rfl, rfl, rfl⟩ := trodAll_nil r0
  obtain rfl : args = #[v0] := by cases args; simp_all
  obtain ⟨g0, rfl⟩ := vars1 hV
  obtain ⟨x0, z0, y0, rfl, rfl, rfl⟩ := open_tone (hval 0 68 v0 rfl rfl) h0
  clear hA0 hval0
  refine (exToneNames_walk x0 z0 W (sylTab_at hL (.head _))).mono fun e W' ⟨he, hb⟩ => ?_
  subst he
  exact ⟨_, rfl, _, _, _, [], _, _, hW', trodAll_cons_mk (shut_bool Tryd.underlying4 _) trodAll_mk0, trodAll_cons_mk (shut_tone y0 z0) (trodAll_mk0), hb.trodVars laidOut (by kernel_rfl) hV, hb.frame _, fun h => by cases h⟩


end Go.Proofs.YtjodcaeohkjlnaaDoor
