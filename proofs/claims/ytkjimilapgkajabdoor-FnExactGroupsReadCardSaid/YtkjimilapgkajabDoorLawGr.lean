/-
  The exact law of GroupsRead: for every list of tones and every list of melismas the function answers as its model, and leaves its arguments alone.
-/
import Derived.Test.YtkjimilapgkajabDoorGr
import Derived.ChangeMaps5
import Derived.Test.YtkjimilapgkajabDoorSzg
import Derived.Test.YtkjimilapgkajabDoorOpenT
import Derived.Test.YtkjimilapgkajabDoorOpenG
import Derived.Test.YtkjimilapgkajabDoorTL3
import Derived.Test.YtkjimilapgkajabDoorNeu
import Derived.Test.YtkjimilapgkajabDoorLaid1
import Derived.Deep.DeepHandedRow
import Derived.Deep.DeepRowAt
import Derived.OpenVars
import Derived.Test.YtkjimilapgkajabDoorCards
import Derived.Test.YtkjimilapgkajabDoorTie
import Derived.Lay
import Derived.Deep.DeepWitnessRowRef
namespace Go.Proofs.YtkjimilapgkajabDoor
open Go.RowKit Go.ChangeShapes Go.WideShapes Go.ChangeAt Go.ChangeMaps
set_option maxRecDepth 100000
set_option linter.unusedVariables false

set_option maxHeartbeats 4000000 in
theorem exGroupsRead_walk (a : Option Addr) (c : Nat) (xs : List (Int × Bool)) (a' : Option Addr) (c' : Nat) (gs : List (Int × Bool)) (t : ByteArray) (hts : t.size ≤ maxLen) (w : World) (h : ArgT w a xs) (hc : xs.length ≤ c) (hcap : c ≤ maxLen) (h' : ArgT w a' gs) (hc' : gs.length ≤ c') (hcap' : c' ≤ maxLen) (ht : NeuTab w) :
    Calls Tryd.prog 11 #[.slice a xs.length c, .slice a' gs.length c', .string t] w fun e w' => e = .returned (.bool true) ∧ Below w.heap.size w w' := by
  unfold maxLen at hcap hcap' hts
  by_cases hn0 : 1048576 < t.size
  · have g : (1048576 : Int) < (t.size : Int) := by omega
    clear h h' ht
    go_enter Tryd.func11, Tryd.ntmps11
    go_wp2
    go_ret
    exact ⟨rfl, Below.refl _ _⟩
  have g : decide ((1048576 : Int) < (t.size : Int)) = false := by simp; omega
  have HS := Lib.hid (szToneS_any a xs.length c (by omega))
  by_cases hn : xs.length ≤ 1048576
  case neg =>
    rw [if_neg hn] at HS
    clear h hn h'
    go_enter Tryd.func11, Tryd.ntmps11
    go_wp2_with (fail)
    (go_at_call 46; refine (HS.out _).mono ?_; rintro e wx ⟨rfl, rfl⟩)
    go_wp2
    go_ret
    exact ⟨rfl, Below.refl _ _⟩
  rw [if_pos hn] at HS
  have hg : decide ((1048576 : Int) - (xs.length : Int) < 0) = false := by simp; omega
  obtain ⟨m, hm⟩ : ∃ m : Nat, (1048576 : Int) - (xs.length : Int) = (m : Int) := ⟨1048576 - xs.length, by omega⟩
  have hm9 : m ≤ 1048576 := by omega
  rw [hm] at HS hg
  clear hm
  have HZ := Lib.hid (szMelS_left a' gs.length c' m hm9 (by omega))
  by_cases hz : gs.length ≤ m
  case neg =>
    rw [if_neg hz] at HZ
    clear h hn h' hz
    go_enter Tryd.func11, Tryd.ntmps11
    go_wp2_with (fail)
    (go_at_call 46; refine (HS.out _).mono ?_; rintro e wx ⟨rfl, rfl⟩)
    go_wp2_with (fail)
    (go_at_call 47; refine (HZ.out _).mono ?_; rintro e wx ⟨rfl, rfl⟩)
    go_wp2
    go_ret
    exact ⟨rfl, Below.refl _ _⟩
  rw [if_pos hz] at HZ
  have hg2 : decide ((m : Int) - (gs.length : Int) < 0) = false := by simp; omega
  have hgl : gs.length ≤ 1048576 := by omega
  have HA := Lib.hid h
  have HI := Lib.hid h'
  have KS := Lib.hid (fun lo hi lo' hi' v u W h k => sGroupsRead_any lo hi lo' hi' v u xs gs t W h k (by omega))
  have KI := Lib.hid (fun lo hi lo' hi' v u W h k ht => groupsRead_any lo hi lo' hi' v u xs gs t W h k ht)
  have HT := Lib.hid ht
  clear ht
  generalize grd xs gs t = ok at KS KI
  clear h h'
  go_enter Tryd.func11, Tryd.ntmps11
  go_wp2_with (fail)
  (go_at_call 46; refine (HS.out _).mono ?_; rintro e wx ⟨rfl, rfl⟩)
  go_wp2_with (fail)
  (go_at_call 47; refine (HZ.out _).mono ?_; rintro e wx ⟨rfl, rfl⟩)
  go_wp2_with (fail)
  (go_at_call 48; refine (toToneS_any a c xs _ HA.out hn).mono ?_; rintro e w1 ⟨v0, rfl, hr0, hb1⟩)
  go_wp2_with (fail)
  (go_at_call 49; refine (toMelismaS_any a' c' gs _ (HI.out.below hb1) hgl).mono ?_; rintro e w2 ⟨i0, rfl, hi0, hb2⟩)
  have hbw2 := bl_step hb1 hb2
  have hr0 := hr0.below hb2 (.inl (Nat.le_refl _))
  go_wp2_with (fail)
  (go_at_call 45; refine (KS.out _ _ _ _ _ _ _ hr0 hi0).mono ?_; rintro e w3 ⟨rfl, hb3⟩)
  have hbw3 := bl_step hbw2 hb3
  clear hr0 hi0
  go_wp2_with (fail)
  (go_at_call 48; refine (toToneS_any a c xs _ (HA.out.below hbw3) hn).mono ?_; rintro e w4 ⟨v1, rfl, hr1, hb4⟩)
  have hbw4 := bl_step hbw3 hb4
  go_wp2_with (fail)
  (go_at_call 49; refine (toMelismaS_any a' c' gs _ (HI.out.below hbw4) hgl).mono ?_; rintro e w5 ⟨i1, rfl, hi1, hb5⟩)
  have hbw5 := bl_step hbw4 hb5
  have hr1 := hr1.below hb5 (.inl (Nat.le_refl _))
  go_wp2_with (fail)
  (go_at_call 41; refine (KI.out _ _ _ _ _ _ _ hr1 hi1 (HT.out.below hbw5)).mono ?_; rintro e w6 ⟨rfl, hb6⟩)
  have hbw6 := bl_step hbw5 hb6
  have z5 := hb5.size; have z6 := hb6.size
  have hr1 := hr1.below hb6 (.inl (by omega))
  have hi1 := hi1.below hb6 (.inl (by omega))
  go_wp2_with (fail)
  (go_at_call 48; refine (toToneS_any a c xs _ (HA.out.below hbw6) hn).mono ?_; rintro e w7 ⟨v2, rfl, hr2, hb7⟩)
  have hbw7 := bl_step hbw6 hb7
  have z7 := hb7.size
  have hr1 := hr1.below hb7 (.inl (by omega))
  have hi1 := hi1.below hb7 (.inl (by omega))
  go_wp2_with (fail)
  (go_at_call 50; refine (eqToneS_any _ _ _ _ _ _ xs _ hr1 hr2).mono ?_; rintro e w8 ⟨rfl, hb8⟩)
  have hbw8 := bl_step hbw7 hb8
  have z8 := hb8.size
  have hi1 := hi1.below hb8 (.inl (by omega))
  clear hr1 hr2
  go_wp2_with (fail)
  (go_at_call 49; refine (toMelismaS_any a' c' gs _ (HI.out.below hbw8) hgl).mono ?_; rintro e w9 ⟨i2, rfl, hi2, hb9⟩)
  have hbw9 := bl_step hbw8 hb9
  have hi1 := hi1.below hb9 (.inl (by omega))
  go_wp2_with (fail)
  (go_at_call 51; refine (eqMelismaS_any _ _ _ _ _ _ gs _ hi1 hi2).mono ?_; rintro e w10 ⟨rfl, hb10⟩)
  go_wp2
  go_ret
  exact ⟨rfl, bl_step hbw9 hb10⟩

noncomputable def fnExactGroupsRead_world (os : Os) : World := World.laidAll Tryd.prog os Rows.fnExactGroupsReadRow.laid
theorem fnExactGroupsRead_met (os : Os) : laidMet Tryd.prog Rows.fnExactGroupsReadRow.laid ((fnExactGroupsRead_world os).forCall (fun _ _ => 0) ⟨#[], #[.slice none 0 0, .slice none 0 0, .string ⟨#[]⟩], []⟩).memory :=
  laidMet_laidAll _ (by kernel_rfl) (by kernel_rfl)
theorem fnExactGroupsRead_reads (os : Os) {H : Type} (enc : TypeId × Value → H) : ∃ places, DataW.whole enc Tryd.prog ((fnExactGroupsRead_world os).forCall (fun _ _ => 0) ⟨#[], #[.slice none 0 0, .slice none 0 0, .string ⟨#[]⟩], []⟩).memory Tryd.f11.params.toList Rows.fnExactGroupsReadSpec.vars false (#[.slice none 0 0, .slice none 0 0, .string ⟨#[]⟩] : Array Value).toList 8 = some ([.nil, .nil, .lit (.string [])], [Rows.laid_loop_example_neumes_impl_neumes], places) :=
  ⟨((DataW.whole enc Tryd.prog ((fnExactGroupsRead_world os).forCall (fun _ _ => 0) ⟨#[], #[.slice none 0 0, .slice none 0 0, .string ⟨#[]⟩], []⟩).memory Tryd.f11.params.toList Rows.fnExactGroupsReadSpec.vars false (#[.slice none 0 0, .slice none 0 0, .string ⟨#[]⟩] : Array Value).toList 8).getD ([], [], [])).2.2, by kernel_rfl⟩
set_option maxRecDepth 100000 in
theorem fnExactGroupsRead_lifted (os : Os) (started : os.Started) (H : Type) (enc : TypeId × Value → H) (F : Stop.Interp) :
    ReturnsInHanded {} Tryd.checked os 11 .any ((OpenSpec.ofChange Rows.fnExactGroupsReadSpec).preRow enc Tryd.prog Tryd.f11 Rows.fnExactGroupsReadRow.domain false Rows.fnExactGroupsReadRow.laid) (((OpenSpec.ofChange Rows.fnExactGroupsReadSpec).at F).post enc Tryd.prog Tryd.f11 false true false false) := by
  obtain ⟨places, hx⟩ := fnExactGroupsRead_reads os enc
  refine returnsInHanded_of_row (C := Tryd.checked) (s := OpenSpec.ofChange Rows.fnExactGroupsReadSpec) own started (by kernel_rfl) Tryd.func11
    (witness_row_atRef (enc := enc) (C := Tryd.checked) false (fnExactGroupsRead_world os) #[.slice none 0 0, .slice none 0 0, .string ⟨#[]⟩] rfl (by kernel_rfl) (by kernel_rfl) (by kernel_rfl)
      (OpenSpec.preRow_of_cond 8 hx (by kernel_rfl) (fun k hk => by cases hk) (by kernel_rfl) (fnExactGroupsRead_met os))) ?_
  intro W base args ds gs before hval0 hW _ _ _ hL _ _
  have hval : ∀ (j : Nat) t v, Tryd.f11.params[j]? = some t → args[j]? = some v → Value.okWide Tryd.prog W .any base t v := hval0
  have hW' := hW
  obtain ⟨p, q, hA0, hV, rfl, _, _⟩ := hW
  have hA : DataW.TrodAll enc Tryd.prog W 0 (fun _ => true) true Tryd.f11.params.toList args.toList ds p := hA0
  rw [Tryd.params11] at hA hval
  obtain ⟨v0, vs0, d0, ds0, p0, q0, hargs, rfl, rfl, h0, r0⟩ := trodAll_cons hA
  obtain ⟨v1, vs1, d1, ds1, p1, q1, rfl, rfl, rfl, h1, r1⟩ := trodAll_cons r0
  obtain ⟨v2, vs2, d2, ds2, p2, q2, rfl, rfl, rfl, h2, r2⟩ := trodAll_cons r1
  obtain ⟨rfl, rfl, rfl⟩ := trodAll_nil r2
  obtain rfl : args = #[v0, v1, v2] := by cases args; simp_all
  obtain ⟨g0, rfl⟩ := vars1 hV
  obtain ⟨a0, n0, c0, rfl⟩ := okWide_slice Tryd.underlying65 (hval 0 65 v0 rfl rfl)
  have k0 := h0
  have lt0 : ∀ x ∈ p0, x.block < W.heap.size := by obtain ⟨m, hm⟩ := k0; exact DataW.trod_lt m _ _ _ hm
  obtain ⟨x0, rfl, y0, z0, u0⟩ := tones_in h0
  obtain ⟨a1, n1, c1, rfl⟩ := okWide_slice Tryd.underlying66 (hval 1 66 v1 rfl rfl)
  have k1 := h1
  have lt1 : ∀ x ∈ p1, x.block < W.heap.size := by obtain ⟨m, hm⟩ := k1; exact DataW.trod_lt m _ _ _ hm
  obtain ⟨x1, rfl, y1, z1, u1⟩ := melismas_in h1
  obtain ⟨x2, rfl, rfl, rfl, y2⟩ := open_string Tryd.underlying9 (hval 2 9 v2 rfl rfl) h2
  clear hA0 hval0
  refine (exGroupsRead_walk a0 c0 x0 a1 c1 x1 x2 y2 W y0 z0 u0 y1 z1 u1 (neuTab_at hL (.tail _ (.head _)))).mono fun e W' ⟨he, hb⟩ => ?_
  subst he
  exact ⟨_, rfl, _, _, _, [], _, _, hW', trodAll_cons_mk (shut_bool Tryd.underlying4 _) trodAll_mk0, trodAll_cons_mk (Below.trod laidOut (by kernel_rfl) (of_decide_eq_true (by kernel_rfl)) k0 hb lt0) (trodAll_cons_mk (Below.trod laidOut (by kernel_rfl) (of_decide_eq_true (by kernel_rfl)) k1 hb lt1) (trodAll_cons_mk (shut_string Tryd.underlying9 y2) (trodAll_mk0))), hb.trodVars laidOut (by kernel_rfl) hV, hb.frame _, fun h => by cases h⟩


end Go.Proofs.YtkjimilapgkajabDoor
