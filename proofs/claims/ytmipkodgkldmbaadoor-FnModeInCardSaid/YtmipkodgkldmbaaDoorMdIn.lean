/-
  Is a melody in a mode? In both programs.
-/
import Derived.Test.YtmipkodgkldmbaaDoorMdj
import Derived.Test.YtmipkodgkldmbaaDoorMds
import Derived.Test.YtmipkodgkldmbaaDoorMelRa
import Derived.Test.YtmipkodgkldmbaaDoorMelR2
import Derived.Test.YtmipkodgkldmbaaDoorParts
namespace Go.Proofs.YtmipkodgkldmbaaDoor
open Go.RowKit
set_option maxRecDepth 100000
set_option linter.unusedVariables false

/-- the last tone's cells -/
theorem ArgT.last {w : World} {a : Option Addr} {xs : List (Int × Bool)} (h : ArgT w a xs) (hl : 0 < xs.length) : ∃ A off q, q + 1 = xs.length ∧ a = some ⟨A, off, none⟩ ∧ A < w.heap.size ∧ w.cell? ⟨A, off + q * 2, none⟩ = some (.int .i64 (lst xs).1) ∧ w.cell? ⟨A, off + q * 2 + 1, none⟩ = some (.bool (lst xs).2) := by
  rcases h with rfl | ⟨A, off, ha, hA, hc⟩
  · simp at hl
  · exact ⟨A, off, xs.length - 1, by omega, ha, hA, (hc _ _ (lst_at hl)).1, (hc _ _ (lst_at hl)).2⟩

set_option maxHeartbeats 4000000 in
theorem modeIn_at (a : Option Addr) (cap : Nat) (xs : List (Int × Bool)) (k : Int) (w : World) (h : ArgT w a xs) (hcap : xs.length ≤ cap) (hmax : cap ≤ maxLen) (ht : TenTab w) :
    Calls Tryd.prog 23 #[.slice a xs.length cap, .int .i64 k] w fun e w' => e = .returned (.bool (inM xs k)) ∧ Below w.heap.size w w' := by
  have HA := Lib.hid h
  have HT := Lib.hid ht
  clear ht
  by_cases h1 : mdv k = false
  · rw [inM_no1 h1]
    clear h
    go_enter Tryd.func23, Tryd.ntmps23
    go_wp2_with (fail)
    (go_at_call 49; refine (newMode_any k _ HT.out).mono ?_; rintro e w1 ⟨rfl, hb1⟩)
    go_wp2_with (fail)
    (go_at_call 53; refine (melodyRange_at a cap xs _ (HA.out.below (by have := hb1.size; (repeat' (first | (with_reducible assumption) | (with_reducible exact Below.refl _ _) | (with_reducible refine Below.alloc ?_ ?_ _) | (with_reducible refine Below.drew ?_) | (with_reducible refine bl_drewN ?_ _) | (with_reducible refine Below.setCell ?_ ?_ _) | (with_reducible refine bl_step ?_ (by assumption)) | go_size)))) hcap hmax).mono ?_; rintro e w2 ⟨rfl, hb2⟩)
    have z1 := hb1.size
    have z2 := hb2.size
    (try simp at z2)
    (try rw [h1])
    go_wp2
    go_ret
    exact ⟨rfl, by (repeat' (first | (with_reducible assumption) | (with_reducible exact Below.refl _ _) | (with_reducible refine Below.alloc ?_ ?_ _) | (with_reducible refine Below.drew ?_) | (with_reducible refine bl_drewN ?_ _) | (with_reducible refine Below.setCell ?_ ?_ _) | (with_reducible refine bl_step ?_ (by assumption)) | go_size))⟩
  rw [Bool.not_eq_false] at h1
  by_cases h2 : rgOk xs = false
  · rw [inM_no2 h2]
    clear h
    go_enter Tryd.func23, Tryd.ntmps23
    go_wp2_with (fail)
    (go_at_call 49; refine (newMode_any k _ HT.out).mono ?_; rintro e w1 ⟨rfl, hb1⟩)
    go_wp2_with (fail)
    (go_at_call 53; refine (melodyRange_at a cap xs _ (HA.out.below (by have := hb1.size; (repeat' (first | (with_reducible assumption) | (with_reducible exact Below.refl _ _) | (with_reducible refine Below.alloc ?_ ?_ _) | (with_reducible refine Below.drew ?_) | (with_reducible refine bl_drewN ?_ _) | (with_reducible refine Below.setCell ?_ ?_ _) | (with_reducible refine bl_step ?_ (by assumption)) | go_size)))) hcap hmax).mono ?_; rintro e w2 ⟨rfl, hb2⟩)
    have z1 := hb1.size
    have z2 := hb2.size
    (try simp at z2)
    have s0 : w2.cell? ⟨w1.heap.size, 0, none⟩ = some (.int .i64 (nF k)) := (hb2.cell (p := ⟨w1.heap.size, 0, none⟩) (by simp)).trans (by go_simp)
    have s1 : w2.cell? ⟨w1.heap.size, 1, none⟩ = some (.int .i64 (nT k)) := (hb2.cell (p := ⟨w1.heap.size, 1, none⟩) (by simp)).trans (by go_simp)
    have s2 : w2.cell? ⟨w1.heap.size, 2, none⟩ = some (.int .i64 (mdL k)) := (hb2.cell (p := ⟨w1.heap.size, 2, none⟩) (by simp)).trans (by go_simp)
    have s3 : w2.cell? ⟨w1.heap.size, 3, none⟩ = some (.int .i64 (mdH k)) := (hb2.cell (p := ⟨w1.heap.size, 3, none⟩) (by simp)).trans (by go_simp)
    (try rw [h1, h2])
    go_wp2
    go_ret
    exact ⟨rfl, by (repeat' (first | (with_reducible assumption) | (with_reducible exact Below.refl _ _) | (with_reducible refine Below.alloc ?_ ?_ _) | (with_reducible refine Below.drew ?_) | (with_reducible refine bl_drewN ?_ _) | (with_reducible refine Below.setCell ?_ ?_ _) | (with_reducible refine bl_step ?_ (by assumption)) | go_size))⟩
  rw [Bool.not_eq_false] at h2
  by_cases h3 : rgL xs < mdL k
  · rw [inM_no3 h3]
    clear h
    go_enter Tryd.func23, Tryd.ntmps23
    go_wp2_with (fail)
    (go_at_call 49; refine (newMode_any k _ HT.out).mono ?_; rintro e w1 ⟨rfl, hb1⟩)
    go_wp2_with (fail)
    (go_at_call 53; refine (melodyRange_at a cap xs _ (HA.out.below (by have := hb1.size; (repeat' (first | (with_reducible assumption) | (with_reducible exact Below.refl _ _) | (with_reducible refine Below.alloc ?_ ?_ _) | (with_reducible refine Below.drew ?_) | (with_reducible refine bl_drewN ?_ _) | (with_reducible refine Below.setCell ?_ ?_ _) | (with_reducible refine bl_step ?_ (by assumption)) | go_size)))) hcap hmax).mono ?_; rintro e w2 ⟨rfl, hb2⟩)
    have z1 := hb1.size
    have z2 := hb2.size
    (try simp at z2)
    have s0 : w2.cell? ⟨w1.heap.size, 0, none⟩ = some (.int .i64 (nF k)) := (hb2.cell (p := ⟨w1.heap.size, 0, none⟩) (by simp)).trans (by go_simp)
    have s1 : w2.cell? ⟨w1.heap.size, 1, none⟩ = some (.int .i64 (nT k)) := (hb2.cell (p := ⟨w1.heap.size, 1, none⟩) (by simp)).trans (by go_simp)
    have s2 : w2.cell? ⟨w1.heap.size, 2, none⟩ = some (.int .i64 (mdL k)) := (hb2.cell (p := ⟨w1.heap.size, 2, none⟩) (by simp)).trans (by go_simp)
    have s3 : w2.cell? ⟨w1.heap.size, 3, none⟩ = some (.int .i64 (mdH k)) := (hb2.cell (p := ⟨w1.heap.size, 3, none⟩) (by simp)).trans (by go_simp)
    (try rw [h1, h2])
    go_wp2
    go_ret
    exact ⟨rfl, by (repeat' (first | (with_reducible assumption) | (with_reducible exact Below.refl _ _) | (with_reducible refine Below.alloc ?_ ?_ _) | (with_reducible refine Below.drew ?_) | (with_reducible refine bl_drewN ?_ _) | (with_reducible refine Below.setCell ?_ ?_ _) | (with_reducible refine bl_step ?_ (by assumption)) | go_size))⟩
  by_cases h4 : mdH k < rgH xs
  · rw [inM_no4 h4]
    have d3 : decide (rgL xs < mdL k) = false := by simpa using h3
    clear h h3
    go_enter Tryd.func23, Tryd.ntmps23
    go_wp2_with (fail)
    (go_at_call 49; refine (newMode_any k _ HT.out).mono ?_; rintro e w1 ⟨rfl, hb1⟩)
    go_wp2_with (fail)
    (go_at_call 53; refine (melodyRange_at a cap xs _ (HA.out.below (by have := hb1.size; (repeat' (first | (with_reducible assumption) | (with_reducible exact Below.refl _ _) | (with_reducible refine Below.alloc ?_ ?_ _) | (with_reducible refine Below.drew ?_) | (with_reducible refine bl_drewN ?_ _) | (with_reducible refine Below.setCell ?_ ?_ _) | (with_reducible refine bl_step ?_ (by assumption)) | go_size)))) hcap hmax).mono ?_; rintro e w2 ⟨rfl, hb2⟩)
    have z1 := hb1.size
    have z2 := hb2.size
    (try simp at z2)
    have s0 : w2.cell? ⟨w1.heap.size, 0, none⟩ = some (.int .i64 (nF k)) := (hb2.cell (p := ⟨w1.heap.size, 0, none⟩) (by simp)).trans (by go_simp)
    have s1 : w2.cell? ⟨w1.heap.size, 1, none⟩ = some (.int .i64 (nT k)) := (hb2.cell (p := ⟨w1.heap.size, 1, none⟩) (by simp)).trans (by go_simp)
    have s2 : w2.cell? ⟨w1.heap.size, 2, none⟩ = some (.int .i64 (mdL k)) := (hb2.cell (p := ⟨w1.heap.size, 2, none⟩) (by simp)).trans (by go_simp)
    have s3 : w2.cell? ⟨w1.heap.size, 3, none⟩ = some (.int .i64 (mdH k)) := (hb2.cell (p := ⟨w1.heap.size, 3, none⟩) (by simp)).trans (by go_simp)
    (try rw [h1, h2])
    go_wp2
    go_ret
    exact ⟨rfl, by (repeat' (first | (with_reducible assumption) | (with_reducible exact Below.refl _ _) | (with_reducible refine Below.alloc ?_ ?_ _) | (with_reducible refine Below.drew ?_) | (with_reducible refine bl_drewN ?_ _) | (with_reducible refine Below.setCell ?_ ?_ _) | (with_reducible refine bl_step ?_ (by assumption)) | go_size))⟩
  rw [inM_mid h1 h2 h3 h4]
  have d3 : decide (rgL xs < mdL k) = false := by simpa using h3
  have d4 : decide (mdH k < rgH xs) = false := by simpa using h4
  obtain ⟨hl0, hl1⟩ := rgOk_len h2
  obtain ⟨A, off, q, hq1, rfl, hAs, e0, e1⟩ := h.last hl0
  have m1 : IntKind.i64.wrap ((xs.length : Int) - 1) = (q : Int) := by rw [show (xs.length : Int) - 1 = (q : Int) by omega]; exact IntWalk.i64_in _ (by omega)
  have p0 : (0 : Int) ≤ (q : Int) := by omega
  have p1 : (q : Int) < (xs.length : Int) := by omega
  have eF := (md_yes h1).1
  clear h h3 h4
  generalize (lst xs).1 = s at e0
  generalize (lst xs).2 = b at e1
  have hsb : ((s == mdF k) = true ∧ b = false ∧ teq s b (mdF k) false = true) ∨ ((s == mdF k) = true ∧ b = true ∧ teq s b (mdF k) false = false) ∨ ((s == mdF k) = false ∧ teq s b (mdF k) false = false) := by
    by_cases hs : s = mdF k
    · cases b
      · exact .inl ⟨by simpa using hs, rfl, teq_iff.2 ⟨hs, rfl⟩⟩
      · exact .inr (.inl ⟨by simpa using hs, rfl, teq_no2 (by decide)⟩)
    · exact .inr (.inr ⟨by simpa using hs, teq_no1 hs⟩)
  rcases hsb with ⟨g1, rfl, hR⟩ | ⟨g1, rfl, hR⟩ | ⟨g1, hR⟩
  all_goals
    have HR := Lib.hid hR
    clear hR
    go_enter Tryd.func23, Tryd.ntmps23
    go_wp2_with (fail)
    (go_at_call 49; refine (newMode_any k _ HT.out).mono ?_; rintro e w1 ⟨rfl, hb1⟩)
    go_wp2_with (fail)
    (go_at_call 53; refine (melodyRange_at _ cap xs _ (HA.out.below (by have := hb1.size; (repeat' (first | (with_reducible assumption) | (with_reducible exact Below.refl _ _) | (with_reducible refine Below.alloc ?_ ?_ _) | (with_reducible refine Below.drew ?_) | (with_reducible refine bl_drewN ?_ _) | (with_reducible refine Below.setCell ?_ ?_ _) | (with_reducible refine bl_step ?_ (by assumption)) | go_size)))) hcap hmax).mono ?_; rintro e w2 ⟨rfl, hb2⟩)
    have z1 := hb1.size
    have z2 := hb2.size
    (try simp at z2)
    have s0 : w2.cell? ⟨w1.heap.size, 0, none⟩ = some (.int .i64 (nF k)) := (hb2.cell (p := ⟨w1.heap.size, 0, none⟩) (by simp)).trans (by go_simp)
    have s1 : w2.cell? ⟨w1.heap.size, 1, none⟩ = some (.int .i64 (nT k)) := (hb2.cell (p := ⟨w1.heap.size, 1, none⟩) (by simp)).trans (by go_simp)
    have s2 : w2.cell? ⟨w1.heap.size, 2, none⟩ = some (.int .i64 (mdL k)) := (hb2.cell (p := ⟨w1.heap.size, 2, none⟩) (by simp)).trans (by go_simp)
    have s3 : w2.cell? ⟨w1.heap.size, 3, none⟩ = some (.int .i64 (mdH k)) := (hb2.cell (p := ⟨w1.heap.size, 3, none⟩) (by simp)).trans (by go_simp)
    (try rw [h1, h2])
    have bw2 : Below w.heap.size w w2 := by (repeat' (first | (with_reducible assumption) | (with_reducible exact Below.refl _ _) | (with_reducible refine Below.alloc ?_ ?_ _) | (with_reducible refine Below.drew ?_) | (with_reducible refine bl_drewN ?_ _) | (with_reducible refine Below.setCell ?_ ?_ _) | (with_reducible refine bl_step ?_ (by assumption)) | go_size))
    have e0 := (bw2.cell (p := ⟨A, off + q * 2, none⟩) hAs).trans e0
    have e1 := (bw2.cell (p := ⟨A, off + q * 2 + 1, none⟩) hAs).trans e1
    rw [eF] at s0
    go_wp2
    go_quiet (fail)
    go_wp2
    go_ret
    exact ⟨by rw [HR.out]; first | done | rfl | simp, by first | (exact bl_drewN' (by (repeat' (first | (with_reducible assumption) | (with_reducible exact Below.refl _ _) | (with_reducible refine Below.alloc ?_ ?_ _) | (with_reducible refine Below.drew ?_) | (with_reducible refine bl_drewN ?_ _) | (with_reducible refine Below.setCell ?_ ?_ _) | (with_reducible refine bl_step ?_ (by assumption)) | go_size))) _) | (repeat' (first | (with_reducible assumption) | (with_reducible exact Below.refl _ _) | (with_reducible refine Below.alloc ?_ ?_ _) | (with_reducible refine Below.drew ?_) | (with_reducible refine bl_drewN ?_ _) | (with_reducible refine Below.setCell ?_ ?_ _) | (with_reducible refine bl_step ?_ (by assumption)) | go_size))⟩

set_option maxHeartbeats 4000000 in
theorem sModeIn_any (lo hi : Nat) (v : Value) (xs : List (Int × Bool)) (k : Int) (w : World) (h : TRow w lo hi v xs) :
    Calls Tryd.prog 24 #[v, .int .i64 k] w fun e w' => e = .returned (.bool (inM xs k)) ∧ Below w.heap.size w w' := by
  have HA := Lib.hid h
  by_cases h2 : rgOk xs = false
  · rw [inM_no2 h2]
    clear h
    go_enter Tryd.func24, Tryd.ntmps24
    go_wp2_with (fail)
    (go_at_call 54; refine (sMelodyRange_any lo hi v xs _ HA.out).mono ?_; rintro e w1 ⟨rfl, hb1⟩)
    go_wp2_with (fail)
    (go_at_call 18; refine (sModeRange_any k _).mono ?_; rintro e w2 ⟨rfl, hb2⟩)
    have z1 := hb1.size
    have z2 := hb2.size
    (try simp at z2)
    (try rw [h2])
    go_wp2
    go_ret
    exact ⟨rfl, by (repeat' (first | (with_reducible assumption) | (with_reducible exact Below.refl _ _) | (with_reducible refine Below.alloc ?_ ?_ _) | (with_reducible refine Below.drew ?_) | (with_reducible refine bl_drewN ?_ _) | (with_reducible refine Below.setCell ?_ ?_ _) | (with_reducible refine bl_step ?_ (by assumption)) | go_size))⟩
  rw [Bool.not_eq_false] at h2
  by_cases h1 : mdv k = false
  · rw [inM_no1 h1]
    clear h
    go_enter Tryd.func24, Tryd.ntmps24
    go_wp2_with (fail)
    (go_at_call 54; refine (sMelodyRange_any lo hi v xs _ HA.out).mono ?_; rintro e w1 ⟨rfl, hb1⟩)
    go_wp2_with (fail)
    (go_at_call 18; refine (sModeRange_any k _).mono ?_; rintro e w2 ⟨rfl, hb2⟩)
    have z1 := hb1.size
    have z2 := hb2.size
    (try simp at z2)
    (try rw [h1, h2])
    go_wp2
    go_ret
    exact ⟨rfl, by (repeat' (first | (with_reducible assumption) | (with_reducible exact Below.refl _ _) | (with_reducible refine Below.alloc ?_ ?_ _) | (with_reducible refine Below.drew ?_) | (with_reducible refine bl_drewN ?_ _) | (with_reducible refine Below.setCell ?_ ?_ _) | (with_reducible refine bl_step ?_ (by assumption)) | go_size))⟩
  rw [Bool.not_eq_false] at h1
  by_cases h3 : rgL xs < mdL k
  · rw [inM_no3 h3]
    clear h
    go_enter Tryd.func24, Tryd.ntmps24
    go_wp2_with (fail)
    (go_at_call 54; refine (sMelodyRange_any lo hi v xs _ HA.out).mono ?_; rintro e w1 ⟨rfl, hb1⟩)
    go_wp2_with (fail)
    (go_at_call 18; refine (sModeRange_any k _).mono ?_; rintro e w2 ⟨rfl, hb2⟩)
    have z1 := hb1.size
    have z2 := hb2.size
    (try simp at z2)
    (try rw [h1, h2])
    go_wp2
    go_ret
    exact ⟨rfl, by (repeat' (first | (with_reducible assumption) | (with_reducible exact Below.refl _ _) | (with_reducible refine Below.alloc ?_ ?_ _) | (with_reducible refine Below.drew ?_) | (with_reducible refine bl_drewN ?_ _) | (with_reducible refine Below.setCell ?_ ?_ _) | (with_reducible refine bl_step ?_ (by assumption)) | go_size))⟩
  by_cases h4 : mdH k < rgH xs
  · rw [inM_no4 h4]
    have d3 : decide (rgL xs < mdL k) = false := by simpa using h3
    clear h h3
    go_enter Tryd.func24, Tryd.ntmps24
    go_wp2_with (fail)
    (go_at_call 54; refine (sMelodyRange_any lo hi v xs _ HA.out).mono ?_; rintro e w1 ⟨rfl, hb1⟩)
    go_wp2_with (fail)
    (go_at_call 18; refine (sModeRange_any k _).mono ?_; rintro e w2 ⟨rfl, hb2⟩)
    have z1 := hb1.size
    have z2 := hb2.size
    (try simp at z2)
    (try rw [h1, h2])
    go_wp2
    go_ret
    exact ⟨rfl, by (repeat' (first | (with_reducible assumption) | (with_reducible exact Below.refl _ _) | (with_reducible refine Below.alloc ?_ ?_ _) | (with_reducible refine Below.drew ?_) | (with_reducible refine bl_drewN ?_ _) | (with_reducible refine Below.setCell ?_ ?_ _) | (with_reducible refine bl_step ?_ (by assumption)) | go_size))⟩
  rw [inM_mid h1 h2 h3 h4]
  have d3 : decide (rgL xs < mdL k) = false := by simpa using h3
  have d4 : decide (mdH k < rgH xs) = false := by simpa using h4
  obtain ⟨hl0, hl1⟩ := rgOk_len h2
  obtain ⟨a, cap, rfl, hcap, hmax, hat⟩ := h.argA
  obtain ⟨A, off, q, hq1, rfl, hAs, e0, e1⟩ := hat.last hl0
  have m1 : IntKind.i64.wrap ((xs.length : Int) - 1) = (q : Int) := by rw [show (xs.length : Int) - 1 = (q : Int) by omega]; exact IntWalk.i64_in _ (by omega)
  have p0 : (0 : Int) ≤ (q : Int) := by omega
  have p1 : (q : Int) < (xs.length : Int) := by omega
  clear h h3 h4 hat
  generalize (lst xs).1 = s at e0
  generalize (lst xs).2 = b at e1
  have hsb : ((s == mdF k) = true ∧ b = false ∧ teq s b (mdF k) false = true) ∨ ((s == mdF k) = true ∧ b = true ∧ teq s b (mdF k) false = false) ∨ ((s == mdF k) = false ∧ teq s b (mdF k) false = false) := by
    by_cases hs : s = mdF k
    · cases b
      · exact .inl ⟨by simpa using hs, rfl, teq_iff.2 ⟨hs, rfl⟩⟩
      · exact .inr (.inl ⟨by simpa using hs, rfl, teq_no2 (by decide)⟩)
    · exact .inr (.inr ⟨by simpa using hs, teq_no1 hs⟩)
  rcases hsb with ⟨g1, rfl, hR⟩ | ⟨g1, rfl, hR⟩ | ⟨g1, hR⟩
  · have HR := Lib.hid hR
    clear hR
    go_enter Tryd.func24, Tryd.ntmps24
    go_wp2_with (fail)
    (go_at_call 54; refine (sMelodyRange_any lo hi _ xs _ HA.out).mono ?_; rintro e w1 ⟨rfl, hb1⟩)
    go_wp2_with (fail)
    (go_at_call 18; refine (sModeRange_any k _).mono ?_; rintro e w2 ⟨rfl, hb2⟩)
    have z1 := hb1.size
    have z2 := hb2.size
    (try simp at z2)
    (try rw [h1, h2])
    have bw2 := bl_step hb1 hb2
    have e0 := (bw2.cell (p := ⟨A, off + q * 2, none⟩) hAs).trans e0
    have e1 := (bw2.cell (p := ⟨A, off + q * 2 + 1, none⟩) hAs).trans e1
    have KF := Lib.hid (fun W => sModeFinal_any k W)
    go_wp2
    go_region_held3 (fun wx => wx.cell? ⟨A, off + q * 2, none⟩ = some (.int .i64 s) ∧ wx.cell? ⟨A, off + q * 2 + 1, none⟩ = some (.bool false)) (go_keep)
      (first | (go_at_call 37; refine (KF.out _).mono ?_; rintro e w3 ⟨rfl, hb3⟩; have f0 := (hb3.cell (p := ⟨A, off + q * 2, none⟩) (by have := bw2.size; simp; omega)).trans e0; have f1 := (hb3.cell (p := ⟨A, off + q * 2 + 1, none⟩) (by have := bw2.size; simp; omega)).trans e1))
    go_wp2
    go_ret
    exact ⟨by rw [HR.out]; first | done | rfl | simp, by first | exact bl_step bw2.drew hb3 | (repeat' (first | (with_reducible assumption) | (with_reducible exact Below.refl _ _) | (with_reducible refine Below.alloc ?_ ?_ _) | (with_reducible refine Below.drew ?_) | (with_reducible refine bl_drewN ?_ _) | (with_reducible refine Below.setCell ?_ ?_ _) | (with_reducible refine bl_step ?_ (by assumption)) | go_size))⟩
  · have HR := Lib.hid hR
    clear hR
    go_enter Tryd.func24, Tryd.ntmps24
    go_wp2_with (fail)
    (go_at_call 54; refine (sMelodyRange_any lo hi _ xs _ HA.out).mono ?_; rintro e w1 ⟨rfl, hb1⟩)
    go_wp2_with (fail)
    (go_at_call 18; refine (sModeRange_any k _).mono ?_; rintro e w2 ⟨rfl, hb2⟩)
    have z1 := hb1.size
    have z2 := hb2.size
    (try simp at z2)
    (try rw [h1, h2])
    have bw2 := bl_step hb1 hb2
    have e0 := (bw2.cell (p := ⟨A, off + q * 2, none⟩) hAs).trans e0
    have e1 := (bw2.cell (p := ⟨A, off + q * 2 + 1, none⟩) hAs).trans e1
    have KF := Lib.hid (fun W => sModeFinal_any k W)
    go_wp2
    go_region_held3 (fun wx => wx.cell? ⟨A, off + q * 2, none⟩ = some (.int .i64 s) ∧ wx.cell? ⟨A, off + q * 2 + 1, none⟩ = some (.bool true)) (go_keep)
      (first | (go_at_call 37; refine (KF.out _).mono ?_; rintro e w3 ⟨rfl, hb3⟩; have f0 := (hb3.cell (p := ⟨A, off + q * 2, none⟩) (by have := bw2.size; simp; omega)).trans e0; have f1 := (hb3.cell (p := ⟨A, off + q * 2 + 1, none⟩) (by have := bw2.size; simp; omega)).trans e1))
    go_wp2
    go_ret
    exact ⟨by rw [HR.out]; first | done | rfl | simp, by first | exact bl_step bw2.drew hb3 | (repeat' (first | (with_reducible assumption) | (with_reducible exact Below.refl _ _) | (with_reducible refine Below.alloc ?_ ?_ _) | (with_reducible refine Below.drew ?_) | (with_reducible refine bl_drewN ?_ _) | (with_reducible refine Below.setCell ?_ ?_ _) | (with_reducible refine bl_step ?_ (by assumption)) | go_size))⟩
  · have HR := Lib.hid hR
    clear hR
    go_enter Tryd.func24, Tryd.ntmps24
    go_wp2_with (fail)
    (go_at_call 54; refine (sMelodyRange_any lo hi _ xs _ HA.out).mono ?_; rintro e w1 ⟨rfl, hb1⟩)
    go_wp2_with (fail)
    (go_at_call 18; refine (sModeRange_any k _).mono ?_; rintro e w2 ⟨rfl, hb2⟩)
    have z1 := hb1.size
    have z2 := hb2.size
    (try simp at z2)
    (try rw [h1, h2])
    have bw2 := bl_step hb1 hb2
    have e0 := (bw2.cell (p := ⟨A, off + q * 2, none⟩) hAs).trans e0
    have e1 := (bw2.cell (p := ⟨A, off + q * 2 + 1, none⟩) hAs).trans e1
    have KF := Lib.hid (fun W => sModeFinal_any k W)
    go_wp2
    go_region_held3 (fun wx => wx.cell? ⟨A, off + q * 2, none⟩ = some (.int .i64 s) ∧ wx.cell? ⟨A, off + q * 2 + 1, none⟩ = some (.bool b)) (go_keep)
      (first | (go_at_call 37; refine (KF.out _).mono ?_; rintro e w3 ⟨rfl, hb3⟩; have f0 := (hb3.cell (p := ⟨A, off + q * 2, none⟩) (by have := bw2.size; simp; omega)).trans e0; have f1 := (hb3.cell (p := ⟨A, off + q * 2 + 1, none⟩) (by have := bw2.size; simp; omega)).trans e1))
    go_wp2
    go_ret
    exact ⟨by rw [HR.out]; first | done | rfl | simp, by first | exact bl_step bw2.drew hb3 | (repeat' (first | (with_reducible assumption) | (with_reducible exact Below.refl _ _) | (with_reducible refine Below.alloc ?_ ?_ _) | (with_reducible refine Below.drew ?_) | (with_reducible refine bl_drewN ?_ _) | (with_reducible refine Below.setCell ?_ ?_ _) | (with_reducible refine bl_step ?_ (by assumption)) | go_size))⟩
end Go.Proofs.YtmipkodgkldmbaaDoor
