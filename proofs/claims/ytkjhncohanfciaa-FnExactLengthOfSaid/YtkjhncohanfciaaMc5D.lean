/- Texts on the program and its reference, put together (Kinds, Kids, PipeV). -/
import Derived.Test.YtkjhncohanfciaaMc5C
import Derived.Test.YtkjhncohanfciaaMc5B
import Derived.Test.YtkjhncohanfciaaMc5A
import Derived.Deep.RegionWith
import Derived.Lib.QuietBelow
import Derived.BigQuiet
import Derived.Deep.DeepMust
/- Contracts: the numbers of a node, in one; how many nodes are below a kind; whether the nodes below are earlier ones. -/
namespace Go.Proofs.Ytkjhncohanfciaa
open Go.RowKit

/-- A kind is one of fourteen, or none of them. -/
theorem kinds (k : Int) : (k = 0 ∨ k = 1 ∨ k = 2 ∨ k = 3 ∨ k = 4 ∨ k = 5 ∨ k = 6 ∨ k = 7 ∨ k = 8 ∨ k = 9 ∨ k = 10 ∨ k = 11 ∨ k = 12 ∨ k = 13) ∨
    ((k == 0) = false ∧ (k == 1) = false ∧ (k == 2) = false ∧ (k == 3) = false ∧ (k == 4) = false ∧ (k == 5) = false ∧ (k == 6) = false ∧ (k == 7) = false ∧ (k == 8) = false ∧ (k == 9) = false ∧ (k == 10) = false ∧ (k == 11) = false ∧ (k == 12) = false ∧ (k == 13) = false) := by
  simp only [beq_eq_false_iff_ne, ne_eq]
  omega

theorem num_two {b c1 c2 v1 v2 r : Bool} (e : b = (c1 && c2)) (h : c1 = v1) (g : c2 = v2) (hr : (v1 && v2) = r := by rfl) : r = b := by rw [e, h, g, hr]
theorem num_one {b c1 c2 : Bool} (e : b = (c1 && c2)) (h : c1 = false) : false = b := by rw [e, h]; rfl

theorem specNums_kind (k a b n m : Int) (w : World) :
    Calls Try.prog 68 #[.agg #[.int .i64 k, .int .i64 a, .int .i64 b, .int .i64 n, .int .i64 m]] w fun e w' => e = .returned (.bool (numsOk ⟨k, a, b, n, m⟩)) ∧ Below w.heap.size w w' := by
  rcases kinds k with (rfl | rfl | rfl | rfl | rfl | rfl | rfl | rfl | rfl | rfl | rfl | rfl | rfl | rfl) | ⟨e0, e1, e2, e3, e4, e5, e6, e7, e8, e9, e10, e11, e12, e13⟩
  · cases h : inR n 0 2
    · exact (goodNumbers_k0_no1 a b n m w (Lib.hid h)).mono fun e w' ⟨he, hb⟩ => ⟨by rw [he]; exact ret_bool (num_one rfl h), hb⟩
    · cases g : (m == 0)
      · exact (goodNumbers_k0_no2 a b n m w (Lib.hid h) g).mono fun e w' ⟨he, hb⟩ => ⟨by rw [he]; exact ret_bool (num_two rfl h g), hb⟩
      · exact (goodNumbers_k0_yes a b n m w (Lib.hid h) g).mono fun e w' ⟨he, hb⟩ => ⟨by rw [he]; exact ret_bool (num_two rfl h g), hb⟩
  · cases h : inR n 0 99
    · exact (goodNumbers_k1_no1 a b n m w (Lib.hid h)).mono fun e w' ⟨he, hb⟩ => ⟨by rw [he]; exact ret_bool (num_one rfl h), hb⟩
    · cases g : inR m 0 (99)
      · exact (goodNumbers_k1_no2 a b n m w (Lib.hid h) (Lib.hid g)).mono fun e w' ⟨he, hb⟩ => ⟨by rw [he]; exact ret_bool (num_two rfl h g), hb⟩
      · exact (goodNumbers_k1_yes a b n m w (Lib.hid h) (Lib.hid g)).mono fun e w' ⟨he, hb⟩ => ⟨by rw [he]; exact ret_bool (num_two rfl h g), hb⟩
  · cases h : inR n 1 30
    · exact (goodNumbers_k2_no1 a b n m w (Lib.hid h)).mono fun e w' ⟨he, hb⟩ => ⟨by rw [he]; exact ret_bool (num_one rfl h), hb⟩
    · cases g : inR m 0 (n - 1)
      · exact (goodNumbers_k2_no2 a b n m w (Lib.hid h) (Lib.hid g) (inR_iff.1 h).1 (inR_iff.1 h).2).mono fun e w' ⟨he, hb⟩ => ⟨by rw [he]; exact ret_bool (num_two rfl h g), hb⟩
      · exact (goodNumbers_k2_yes a b n m w (Lib.hid h) (Lib.hid g) (inR_iff.1 h).1 (inR_iff.1 h).2).mono fun e w' ⟨he, hb⟩ => ⟨by rw [he]; exact ret_bool (num_two rfl h g), hb⟩
  · cases h : inR n 0 30
    · exact (goodNumbers_k3_no1 a b n m w (Lib.hid h)).mono fun e w' ⟨he, hb⟩ => ⟨by rw [he]; exact ret_bool (num_one rfl h), hb⟩
    · cases g : (m == 0)
      · exact (goodNumbers_k3_no2 a b n m w (Lib.hid h) g).mono fun e w' ⟨he, hb⟩ => ⟨by rw [he]; exact ret_bool (num_two rfl h g), hb⟩
      · exact (goodNumbers_k3_yes a b n m w (Lib.hid h) g).mono fun e w' ⟨he, hb⟩ => ⟨by rw [he]; exact ret_bool (num_two rfl h g), hb⟩
  · cases h : inR n 0 30
    · exact (goodNumbers_k4_no1 a b n m w (Lib.hid h)).mono fun e w' ⟨he, hb⟩ => ⟨by rw [he]; exact ret_bool (num_one rfl h), hb⟩
    · cases g : (m == 0)
      · exact (goodNumbers_k4_no2 a b n m w (Lib.hid h) g).mono fun e w' ⟨he, hb⟩ => ⟨by rw [he]; exact ret_bool (num_two rfl h g), hb⟩
      · exact (goodNumbers_k4_yes a b n m w (Lib.hid h) g).mono fun e w' ⟨he, hb⟩ => ⟨by rw [he]; exact ret_bool (num_two rfl h g), hb⟩
  · cases h : inR n 0 99
    · exact (goodNumbers_k5_no1 a b n m w (Lib.hid h)).mono fun e w' ⟨he, hb⟩ => ⟨by rw [he]; exact ret_bool (num_one rfl h), hb⟩
    · cases g : (m == 0)
      · exact (goodNumbers_k5_no2 a b n m w (Lib.hid h) g).mono fun e w' ⟨he, hb⟩ => ⟨by rw [he]; exact ret_bool (num_two rfl h g), hb⟩
      · exact (goodNumbers_k5_yes a b n m w (Lib.hid h) g).mono fun e w' ⟨he, hb⟩ => ⟨by rw [he]; exact ret_bool (num_two rfl h g), hb⟩
  · cases h : inR n 0 99
    · exact (goodNumbers_k6_no1 a b n m w (Lib.hid h)).mono fun e w' ⟨he, hb⟩ => ⟨by rw [he]; exact ret_bool (num_one rfl h), hb⟩
    · cases g : (m == 0)
      · exact (goodNumbers_k6_no2 a b n m w (Lib.hid h) g).mono fun e w' ⟨he, hb⟩ => ⟨by rw [he]; exact ret_bool (num_two rfl h g), hb⟩
      · exact (goodNumbers_k6_yes a b n m w (Lib.hid h) g).mono fun e w' ⟨he, hb⟩ => ⟨by rw [he]; exact ret_bool (num_two rfl h g), hb⟩
  · cases h : (n == 0)
    · exact (goodNumbers_rest_no1 a b n m w _ rfl rfl rfl rfl rfl rfl rfl rfl h).mono fun e w' ⟨he, hb⟩ => ⟨by rw [he]; exact ret_bool (num_one rfl h), hb⟩
    · cases g : (m == 0)
      · exact (goodNumbers_rest_no2 a b n m w _ rfl rfl rfl rfl rfl rfl rfl rfl h g).mono fun e w' ⟨he, hb⟩ => ⟨by rw [he]; exact ret_bool (num_two rfl h g), hb⟩
      · exact (goodNumbers_rest_yes a b n m w _ rfl rfl rfl rfl rfl rfl rfl rfl h g).mono fun e w' ⟨he, hb⟩ => ⟨by rw [he]; exact ret_bool (num_two rfl h g), hb⟩
  · cases h : (n == 0)
    · exact (goodNumbers_rest_no1 a b n m w _ rfl rfl rfl rfl rfl rfl rfl rfl h).mono fun e w' ⟨he, hb⟩ => ⟨by rw [he]; exact ret_bool (num_one rfl h), hb⟩
    · cases g : (m == 0)
      · exact (goodNumbers_rest_no2 a b n m w _ rfl rfl rfl rfl rfl rfl rfl rfl h g).mono fun e w' ⟨he, hb⟩ => ⟨by rw [he]; exact ret_bool (num_two rfl h g), hb⟩
      · exact (goodNumbers_rest_yes a b n m w _ rfl rfl rfl rfl rfl rfl rfl rfl h g).mono fun e w' ⟨he, hb⟩ => ⟨by rw [he]; exact ret_bool (num_two rfl h g), hb⟩
  · cases h : (n == 0)
    · exact (goodNumbers_rest_no1 a b n m w _ rfl rfl rfl rfl rfl rfl rfl rfl h).mono fun e w' ⟨he, hb⟩ => ⟨by rw [he]; exact ret_bool (num_one rfl h), hb⟩
    · cases g : (m == 0)
      · exact (goodNumbers_rest_no2 a b n m w _ rfl rfl rfl rfl rfl rfl rfl rfl h g).mono fun e w' ⟨he, hb⟩ => ⟨by rw [he]; exact ret_bool (num_two rfl h g), hb⟩
      · exact (goodNumbers_rest_yes a b n m w _ rfl rfl rfl rfl rfl rfl rfl rfl h g).mono fun e w' ⟨he, hb⟩ => ⟨by rw [he]; exact ret_bool (num_two rfl h g), hb⟩
  · cases h : (n == 0)
    · exact (goodNumbers_rest_no1 a b n m w _ rfl rfl rfl rfl rfl rfl rfl rfl h).mono fun e w' ⟨he, hb⟩ => ⟨by rw [he]; exact ret_bool (num_one rfl h), hb⟩
    · cases g : (m == 0)
      · exact (goodNumbers_rest_no2 a b n m w _ rfl rfl rfl rfl rfl rfl rfl rfl h g).mono fun e w' ⟨he, hb⟩ => ⟨by rw [he]; exact ret_bool (num_two rfl h g), hb⟩
      · exact (goodNumbers_rest_yes a b n m w _ rfl rfl rfl rfl rfl rfl rfl rfl h g).mono fun e w' ⟨he, hb⟩ => ⟨by rw [he]; exact ret_bool (num_two rfl h g), hb⟩
  · cases h : (n == 0)
    · exact (goodNumbers_rest_no1 a b n m w _ rfl rfl rfl rfl rfl rfl rfl rfl h).mono fun e w' ⟨he, hb⟩ => ⟨by rw [he]; exact ret_bool (num_one rfl h), hb⟩
    · cases g : (m == 0)
      · exact (goodNumbers_rest_no2 a b n m w _ rfl rfl rfl rfl rfl rfl rfl rfl h g).mono fun e w' ⟨he, hb⟩ => ⟨by rw [he]; exact ret_bool (num_two rfl h g), hb⟩
      · exact (goodNumbers_rest_yes a b n m w _ rfl rfl rfl rfl rfl rfl rfl rfl h g).mono fun e w' ⟨he, hb⟩ => ⟨by rw [he]; exact ret_bool (num_two rfl h g), hb⟩
  · cases h : inR n 1 30
    · exact (goodNumbers_k12_no1 a b n m w (Lib.hid h)).mono fun e w' ⟨he, hb⟩ => ⟨by rw [he]; exact ret_bool (num_one rfl h), hb⟩
    · cases g : (m == 0)
      · exact (goodNumbers_k12_no2 a b n m w (Lib.hid h) g).mono fun e w' ⟨he, hb⟩ => ⟨by rw [he]; exact ret_bool (num_two rfl h g), hb⟩
      · exact (goodNumbers_k12_yes a b n m w (Lib.hid h) g).mono fun e w' ⟨he, hb⟩ => ⟨by rw [he]; exact ret_bool (num_two rfl h g), hb⟩
  · cases h : (n == 0)
    · exact (goodNumbers_rest_no1 a b n m w _ rfl rfl rfl rfl rfl rfl rfl rfl h).mono fun e w' ⟨he, hb⟩ => ⟨by rw [he]; exact ret_bool (num_one rfl h), hb⟩
    · cases g : (m == 0)
      · exact (goodNumbers_rest_no2 a b n m w _ rfl rfl rfl rfl rfl rfl rfl rfl h g).mono fun e w' ⟨he, hb⟩ => ⟨by rw [he]; exact ret_bool (num_two rfl h g), hb⟩
      · exact (goodNumbers_rest_yes a b n m w _ rfl rfl rfl rfl rfl rfl rfl rfl h g).mono fun e w' ⟨he, hb⟩ => ⟨by rw [he]; exact ret_bool (num_two rfl h g), hb⟩
  · cases h : (n == 0)
    · exact (goodNumbers_rest_no1 a b n m w k e0 e1 e2 e3 e4 e5 e6 e12 h).mono fun e w' ⟨he, hb⟩ => ⟨by rw [he]; exact ret_bool (by simp [numsOk, e0, e1, e2, e3, e4, e5, e6, e12, h]), hb⟩
    · cases g : (m == 0)
      · exact (goodNumbers_rest_no2 a b n m w k e0 e1 e2 e3 e4 e5 e6 e12 h g).mono fun e w' ⟨he, hb⟩ => ⟨by rw [he]; exact ret_bool (by simp [numsOk, e0, e1, e2, e3, e4, e5, e6, e12, h, g]), hb⟩
      · exact (goodNumbers_rest_yes a b n m w k e0 e1 e2 e3 e4 e5 e6 e12 h g).mono fun e w' ⟨he, hb⟩ => ⟨by rw [he]; exact ret_bool (by simp [numsOk, e0, e1, e2, e3, e4, e5, e6, e12, h, g]), hb⟩

theorem implNums_kind (k a b n m : Int) (w : World) :
    Calls Try.prog 60 #[.agg #[.int .i64 k, .int .i64 a, .int .i64 b, .int .i64 n, .int .i64 m]] w fun e w' => e = .returned (.bool ((numsOk ⟨k, a, b, n, m⟩ && known k))) ∧ Below w.heap.size w w' := by
  rcases kinds k with (rfl | rfl | rfl | rfl | rfl | rfl | rfl | rfl | rfl | rfl | rfl | rfl | rfl | rfl) | ⟨e0, e1, e2, e3, e4, e5, e6, e7, e8, e9, e10, e11, e12, e13⟩
  · cases h : inR n 0 2
    · exact (numbersFit_k0_no1 a b n m w (Lib.hid h)).mono fun e w' ⟨he, hb⟩ => ⟨by rw [he]; exact ret_bool (num_one (Bool.and_true _) h), hb⟩
    · cases g : (m == 0)
      · exact (numbersFit_k0_no2 a b n m w (Lib.hid h) g).mono fun e w' ⟨he, hb⟩ => ⟨by rw [he]; exact ret_bool (num_two (Bool.and_true _) h g), hb⟩
      · exact (numbersFit_k0_yes a b n m w (Lib.hid h) g).mono fun e w' ⟨he, hb⟩ => ⟨by rw [he]; exact ret_bool (num_two (Bool.and_true _) h g), hb⟩
  · cases h : inR n 0 99
    · exact (numbersFit_k1_no1 a b n m w (Lib.hid h)).mono fun e w' ⟨he, hb⟩ => ⟨by rw [he]; exact ret_bool (num_one (Bool.and_true _) h), hb⟩
    · cases g : inR m 0 (99)
      · exact (numbersFit_k1_no2 a b n m w (Lib.hid h) (Lib.hid g)).mono fun e w' ⟨he, hb⟩ => ⟨by rw [he]; exact ret_bool (num_two (Bool.and_true _) h g), hb⟩
      · exact (numbersFit_k1_yes a b n m w (Lib.hid h) (Lib.hid g)).mono fun e w' ⟨he, hb⟩ => ⟨by rw [he]; exact ret_bool (num_two (Bool.and_true _) h g), hb⟩
  · cases h : inR n 1 30
    · exact (numbersFit_k2_no1 a b n m w (Lib.hid h)).mono fun e w' ⟨he, hb⟩ => ⟨by rw [he]; exact ret_bool (num_one (Bool.and_true _) h), hb⟩
    · cases g : inR m 0 (n - 1)
      · exact (numbersFit_k2_no2 a b n m w (Lib.hid h) (Lib.hid g) (inR_iff.1 h).1 (inR_iff.1 h).2).mono fun e w' ⟨he, hb⟩ => ⟨by rw [he]; exact ret_bool (num_two (Bool.and_true _) h g), hb⟩
      · exact (numbersFit_k2_yes a b n m w (Lib.hid h) (Lib.hid g) (inR_iff.1 h).1 (inR_iff.1 h).2).mono fun e w' ⟨he, hb⟩ => ⟨by rw [he]; exact ret_bool (num_two (Bool.and_true _) h g), hb⟩
  · cases h : inR n 0 30
    · exact (numbersFit_k3_no1 a b n m w (Lib.hid h)).mono fun e w' ⟨he, hb⟩ => ⟨by rw [he]; exact ret_bool (num_one (Bool.and_true _) h), hb⟩
    · cases g : (m == 0)
      · exact (numbersFit_k3_no2 a b n m w (Lib.hid h) g).mono fun e w' ⟨he, hb⟩ => ⟨by rw [he]; exact ret_bool (num_two (Bool.and_true _) h g), hb⟩
      · exact (numbersFit_k3_yes a b n m w (Lib.hid h) g).mono fun e w' ⟨he, hb⟩ => ⟨by rw [he]; exact ret_bool (num_two (Bool.and_true _) h g), hb⟩
  · cases h : inR n 0 30
    · exact (numbersFit_k4_no1 a b n m w (Lib.hid h)).mono fun e w' ⟨he, hb⟩ => ⟨by rw [he]; exact ret_bool (num_one (Bool.and_true _) h), hb⟩
    · cases g : (m == 0)
      · exact (numbersFit_k4_no2 a b n m w (Lib.hid h) g).mono fun e w' ⟨he, hb⟩ => ⟨by rw [he]; exact ret_bool (num_two (Bool.and_true _) h g), hb⟩
      · exact (numbersFit_k4_yes a b n m w (Lib.hid h) g).mono fun e w' ⟨he, hb⟩ => ⟨by rw [he]; exact ret_bool (num_two (Bool.and_true _) h g), hb⟩
  · cases h : inR n 0 99
    · exact (numbersFit_k5_no1 a b n m w (Lib.hid h)).mono fun e w' ⟨he, hb⟩ => ⟨by rw [he]; exact ret_bool (num_one (Bool.and_true _) h), hb⟩
    · cases g : (m == 0)
      · exact (numbersFit_k5_no2 a b n m w (Lib.hid h) g).mono fun e w' ⟨he, hb⟩ => ⟨by rw [he]; exact ret_bool (num_two (Bool.and_true _) h g), hb⟩
      · exact (numbersFit_k5_yes a b n m w (Lib.hid h) g).mono fun e w' ⟨he, hb⟩ => ⟨by rw [he]; exact ret_bool (num_two (Bool.and_true _) h g), hb⟩
  · cases h : inR n 0 99
    · exact (numbersFit_k6_no1 a b n m w (Lib.hid h)).mono fun e w' ⟨he, hb⟩ => ⟨by rw [he]; exact ret_bool (num_one (Bool.and_true _) h), hb⟩
    · cases g : (m == 0)
      · exact (numbersFit_k6_no2 a b n m w (Lib.hid h) g).mono fun e w' ⟨he, hb⟩ => ⟨by rw [he]; exact ret_bool (num_two (Bool.and_true _) h g), hb⟩
      · exact (numbersFit_k6_yes a b n m w (Lib.hid h) g).mono fun e w' ⟨he, hb⟩ => ⟨by rw [he]; exact ret_bool (num_two (Bool.and_true _) h g), hb⟩
  · cases h : (n == 0)
    · exact (numbersFit_k7_no1 a b n m w h).mono fun e w' ⟨he, hb⟩ => ⟨by rw [he]; exact ret_bool (num_one (Bool.and_true _) h), hb⟩
    · cases g : (m == 0)
      · exact (numbersFit_k7_no2 a b n m w h g).mono fun e w' ⟨he, hb⟩ => ⟨by rw [he]; exact ret_bool (num_two (Bool.and_true _) h g), hb⟩
      · exact (numbersFit_k7_yes a b n m w h g).mono fun e w' ⟨he, hb⟩ => ⟨by rw [he]; exact ret_bool (num_two (Bool.and_true _) h g), hb⟩
  · cases h : (n == 0)
    · exact (numbersFit_k8_no1 a b n m w h).mono fun e w' ⟨he, hb⟩ => ⟨by rw [he]; exact ret_bool (num_one (Bool.and_true _) h), hb⟩
    · cases g : (m == 0)
      · exact (numbersFit_k8_no2 a b n m w h g).mono fun e w' ⟨he, hb⟩ => ⟨by rw [he]; exact ret_bool (num_two (Bool.and_true _) h g), hb⟩
      · exact (numbersFit_k8_yes a b n m w h g).mono fun e w' ⟨he, hb⟩ => ⟨by rw [he]; exact ret_bool (num_two (Bool.and_true _) h g), hb⟩
  · cases h : (n == 0)
    · exact (numbersFit_k9_no1 a b n m w h).mono fun e w' ⟨he, hb⟩ => ⟨by rw [he]; exact ret_bool (num_one (Bool.and_true _) h), hb⟩
    · cases g : (m == 0)
      · exact (numbersFit_k9_no2 a b n m w h g).mono fun e w' ⟨he, hb⟩ => ⟨by rw [he]; exact ret_bool (num_two (Bool.and_true _) h g), hb⟩
      · exact (numbersFit_k9_yes a b n m w h g).mono fun e w' ⟨he, hb⟩ => ⟨by rw [he]; exact ret_bool (num_two (Bool.and_true _) h g), hb⟩
  · cases h : (n == 0)
    · exact (numbersFit_k10_no1 a b n m w h).mono fun e w' ⟨he, hb⟩ => ⟨by rw [he]; exact ret_bool (num_one (Bool.and_true _) h), hb⟩
    · cases g : (m == 0)
      · exact (numbersFit_k10_no2 a b n m w h g).mono fun e w' ⟨he, hb⟩ => ⟨by rw [he]; exact ret_bool (num_two (Bool.and_true _) h g), hb⟩
      · exact (numbersFit_k10_yes a b n m w h g).mono fun e w' ⟨he, hb⟩ => ⟨by rw [he]; exact ret_bool (num_two (Bool.and_true _) h g), hb⟩
  · cases h : (n == 0)
    · exact (numbersFit_k11_no1 a b n m w h).mono fun e w' ⟨he, hb⟩ => ⟨by rw [he]; exact ret_bool (num_one (Bool.and_true _) h), hb⟩
    · cases g : (m == 0)
      · exact (numbersFit_k11_no2 a b n m w h g).mono fun e w' ⟨he, hb⟩ => ⟨by rw [he]; exact ret_bool (num_two (Bool.and_true _) h g), hb⟩
      · exact (numbersFit_k11_yes a b n m w h g).mono fun e w' ⟨he, hb⟩ => ⟨by rw [he]; exact ret_bool (num_two (Bool.and_true _) h g), hb⟩
  · cases h : inR n 1 30
    · exact (numbersFit_k12_no1 a b n m w (Lib.hid h)).mono fun e w' ⟨he, hb⟩ => ⟨by rw [he]; exact ret_bool (num_one (Bool.and_true _) h), hb⟩
    · cases g : (m == 0)
      · exact (numbersFit_k12_no2 a b n m w (Lib.hid h) g).mono fun e w' ⟨he, hb⟩ => ⟨by rw [he]; exact ret_bool (num_two (Bool.and_true _) h g), hb⟩
      · exact (numbersFit_k12_yes a b n m w (Lib.hid h) g).mono fun e w' ⟨he, hb⟩ => ⟨by rw [he]; exact ret_bool (num_two (Bool.and_true _) h g), hb⟩
  · cases h : (n == 0)
    · exact (numbersFit_k13_no1 a b n m w h).mono fun e w' ⟨he, hb⟩ => ⟨by rw [he]; exact ret_bool (num_one (Bool.and_true _) h), hb⟩
    · cases g : (m == 0)
      · exact (numbersFit_k13_no2 a b n m w h g).mono fun e w' ⟨he, hb⟩ => ⟨by rw [he]; exact ret_bool (num_two (Bool.and_true _) h g), hb⟩
      · exact (numbersFit_k13_yes a b n m w h g).mono fun e w' ⟨he, hb⟩ => ⟨by rw [he]; exact ret_bool (num_two (Bool.and_true _) h g), hb⟩
  · exact (numbersFit_none a b n m w k e0 e1 e2 e3 e4 e5 e6 e12 e7 e8 e9 e10 e11 e13).mono fun e w' ⟨he, hb⟩ => ⟨by rw [he]; exact ret_bool (by simp [known, e0, e1, e2, e3, e4, e5, e6, e7, e8, e9, e10, e11, e12, e13]), hb⟩

theorem arity_any (k : Int) (w : World) : Calls Try.prog 53 #[.int .i64 k] w fun e w' => e = .returned (.int .i64 (arity k)) ∧ w = w' := by
  rcases kinds k with (rfl | rfl | rfl | rfl | rfl | rfl | rfl | rfl | rfl | rfl | rfl | rfl | rfl | rfl) | ⟨e0, e1, e2, e3, e4, e5, e6, e7, e8, e9, e10, e11, e12, e13⟩
  · go_enter Try.func53, Try.ntmps53
    go_wp2
    go_ret
    exact ⟨rfl, rfl⟩
  · go_enter Try.func53, Try.ntmps53
    go_wp2
    go_ret
    exact ⟨rfl, rfl⟩
  · go_enter Try.func53, Try.ntmps53
    go_wp2
    go_ret
    exact ⟨rfl, rfl⟩
  · go_enter Try.func53, Try.ntmps53
    go_wp2
    go_ret
    exact ⟨rfl, rfl⟩
  · go_enter Try.func53, Try.ntmps53
    go_wp2
    go_ret
    exact ⟨rfl, rfl⟩
  · go_enter Try.func53, Try.ntmps53
    go_wp2
    go_ret
    exact ⟨rfl, rfl⟩
  · go_enter Try.func53, Try.ntmps53
    go_wp2
    go_ret
    exact ⟨rfl, rfl⟩
  · go_enter Try.func53, Try.ntmps53
    go_wp2
    go_ret
    exact ⟨rfl, rfl⟩
  · go_enter Try.func53, Try.ntmps53
    go_wp2
    go_ret
    exact ⟨rfl, rfl⟩
  · go_enter Try.func53, Try.ntmps53
    go_wp2
    go_ret
    exact ⟨rfl, rfl⟩
  · go_enter Try.func53, Try.ntmps53
    go_wp2
    go_ret
    exact ⟨rfl, rfl⟩
  · go_enter Try.func53, Try.ntmps53
    go_wp2
    go_ret
    exact ⟨rfl, rfl⟩
  · go_enter Try.func53, Try.ntmps53
    go_wp2
    go_ret
    exact ⟨rfl, rfl⟩
  · go_enter Try.func53, Try.ntmps53
    go_wp2
    go_ret
    exact ⟨rfl, rfl⟩
  · go_enter Try.func53, Try.ntmps53
    go_wp2
    go_ret
    exact ⟨ret_int (by simp [arity, e0, e1, e2, e3, e4, e5, e6, e7, e8, e9, e10, e11, e12, e13]), rfl⟩

theorem nodesBelow_any (k : Int) (w : World) : Calls Try.prog 54 #[.int .i64 k] w fun e w' => e = .returned (.int .i64 (arity k)) ∧ w = w' := by
  rcases kinds k with (rfl | rfl | rfl | rfl | rfl | rfl | rfl | rfl | rfl | rfl | rfl | rfl | rfl | rfl) | ⟨e0, e1, e2, e3, e4, e5, e6, e7, e8, e9, e10, e11, e12, e13⟩
  · go_enter Try.func54, Try.ntmps54
    go_wp2
    go_ret
    exact ⟨rfl, rfl⟩
  · go_enter Try.func54, Try.ntmps54
    go_wp2
    go_ret
    exact ⟨rfl, rfl⟩
  · go_enter Try.func54, Try.ntmps54
    go_wp2
    go_ret
    exact ⟨rfl, rfl⟩
  · go_enter Try.func54, Try.ntmps54
    go_wp2
    go_ret
    exact ⟨rfl, rfl⟩
  · go_enter Try.func54, Try.ntmps54
    go_wp2
    go_ret
    exact ⟨rfl, rfl⟩
  · go_enter Try.func54, Try.ntmps54
    go_wp2
    go_ret
    exact ⟨rfl, rfl⟩
  · go_enter Try.func54, Try.ntmps54
    go_wp2
    go_ret
    exact ⟨rfl, rfl⟩
  · go_enter Try.func54, Try.ntmps54
    go_wp2
    go_ret
    exact ⟨rfl, rfl⟩
  · go_enter Try.func54, Try.ntmps54
    go_wp2
    go_ret
    exact ⟨rfl, rfl⟩
  · go_enter Try.func54, Try.ntmps54
    go_wp2
    go_ret
    exact ⟨rfl, rfl⟩
  · go_enter Try.func54, Try.ntmps54
    go_wp2
    go_ret
    exact ⟨rfl, rfl⟩
  · go_enter Try.func54, Try.ntmps54
    go_wp2
    go_ret
    exact ⟨rfl, rfl⟩
  · go_enter Try.func54, Try.ntmps54
    go_wp2
    go_ret
    exact ⟨rfl, rfl⟩
  · go_enter Try.func54, Try.ntmps54
    go_wp2
    go_ret
    exact ⟨rfl, rfl⟩
  · go_enter Try.func54, Try.ntmps54
    go_wp2
    go_ret
    exact ⟨ret_int (by simp [arity, e0, e1, e2, e3, e4, e5, e6, e7, e8, e9, e10, e11, e12, e13]), rfl⟩

end Go.Proofs.Ytkjhncohanfciaa

/- Contracts: whether a node has earlier nodes below it (the reference); marking the nodes below (the program). -/
namespace Go.Proofs.Ytkjhncohanfciaa
open Go.RowKit

set_option maxHeartbeats 800000 in
theorem specKids_any (x : Nd) (i : Nat) (w : World) (hi : i ≤ 1048576) :
    Calls Try.prog 69 #[.agg #[.int .i64 x.k, .int .i64 x.a, .int .i64 x.b, .int .i64 x.n, .int .i64 x.m], .int .i64 i] w fun e w' => e = .returned (.bool (kidsOk x i)) ∧ Below w.heap.size w w' := by
  rcases arity_cases x.k with ha | ha | ha | ha
  · have Ha := Lib.hid ha
    clear ha
    cases h1 : (x.a == -1)
    · go_enter Try.func69, Try.ntmps69
      go_wp2_with (go_at_call 53; refine (arity_any _ _).mono ?_; rintro e w1 ⟨rfl, rfl⟩; rw [Ha.out])
      go_ret
      exact ⟨ret_bool (by simp [kidsOk, Ha.out, h1]), (Below.refl _ _).alloc (Nat.le_refl _) _⟩
    · cases h2 : (x.b == -1)
      all_goals
        go_enter Try.func69, Try.ntmps69
        go_wp2_with (go_at_call 53; refine (arity_any _ _).mono ?_; rintro e w1 ⟨rfl, rfl⟩; rw [Ha.out])
        go_ret
        exact ⟨ret_bool (by simp [kidsOk, Ha.out, h1, h2]), (Below.refl _ _).alloc (Nat.le_refl _) _⟩
  · have Ha := Lib.hid ha
    clear ha
    cases h1 : inR x.a 0 ((i : Int) - 1)
    · have H1 := Lib.hid h1
      clear h1
      go_enter Try.func69, Try.ntmps69
      go_wp2_with (first | (go_at_call 53; refine (arity_any _ _).mono ?_; rintro e w1 ⟨rfl, rfl⟩; rw [Ha.out]) | (go_at_call 50; refine (specInR_any _ _ _ _).mono ?_; rintro e w1 ⟨rfl, rfl⟩; rw [H1.out]))
      go_ret
      exact ⟨ret_bool (by simp [kidsOk, Ha.out, H1.out]), (Below.refl _ _).alloc (Nat.le_refl _) _⟩
    · have H1 := Lib.hid h1
      clear h1
      cases h2 : (x.b == -1)
      all_goals
        go_enter Try.func69, Try.ntmps69
        go_wp2_with (first | (go_at_call 53; refine (arity_any _ _).mono ?_; rintro e w1 ⟨rfl, rfl⟩; rw [Ha.out]) | (go_at_call 50; refine (specInR_any _ _ _ _).mono ?_; rintro e w1 ⟨rfl, rfl⟩; rw [H1.out]))
        go_ret
        exact ⟨ret_bool (by simp [kidsOk, Ha.out, H1.out, h2]), (Below.refl _ _).alloc (Nat.le_refl _) _⟩
  · have Ha := Lib.hid ha
    clear ha
    cases h1 : inR x.a 0 ((i : Int) - 1)
    · have H1 := Lib.hid h1
      clear h1
      go_enter Try.func69, Try.ntmps69
      go_wp2_with (first | (go_at_call 53; refine (arity_any _ _).mono ?_; rintro e w1 ⟨rfl, rfl⟩; rw [Ha.out]) | (go_at_call 50; refine (specInR_any _ _ _ _).mono ?_; rintro e w1 ⟨rfl, rfl⟩; rw [H1.out]))
      go_ret
      exact ⟨ret_bool (by simp [kidsOk, Ha.out, H1.out]), (Below.refl _ _).alloc (Nat.le_refl _) _⟩
    · have H1 := Lib.hid h1
      clear h1
      cases h2 : inR x.b 0 ((i : Int) - 1)
      · have H2 := Lib.hid h2
        clear h2
        go_enter Try.func69, Try.ntmps69
        go_wp2_with fail
        refine (arity_any _ _).mono ?_
        rintro e w1 ⟨rfl, rfl⟩
        rw [Ha.out]
        go_wp2_with fail
        refine (specInR_any _ _ _ _).mono ?_
        rintro e w1 ⟨rfl, rfl⟩
        rw [H1.out]
        go_wp2_with fail
        refine (specInR_any _ _ _ _).mono ?_
        rintro e w1 ⟨rfl, rfl⟩
        rw [H2.out]
        go_wp2_with fail
        go_ret
        exact ⟨ret_bool (by simp [kidsOk, Ha.out, H1.out, H2.out]), (Below.refl _ _).alloc (Nat.le_refl _) _⟩
      · have H2 := Lib.hid h2
        clear h2
        cases h3 : (x.a != x.b)
        all_goals
          go_enter Try.func69, Try.ntmps69
          go_wp2_with fail
          refine (arity_any _ _).mono ?_
          rintro e w1 ⟨rfl, rfl⟩
          rw [Ha.out]
          go_wp2_with fail
          refine (specInR_any _ _ _ _).mono ?_
          rintro e w1 ⟨rfl, rfl⟩
          rw [H1.out]
          go_wp2_with fail
          refine (specInR_any _ _ _ _).mono ?_
          rintro e w1 ⟨rfl, rfl⟩
          rw [H2.out]
          go_wp2_with fail
          go_ret
          exact ⟨ret_bool (by simp [kidsOk, Ha.out, H1.out, H2.out, h3]), (Below.refl _ _).alloc (Nat.le_refl _) _⟩
  · have Ha := Lib.hid ha
    clear ha
    go_enter Try.func69, Try.ntmps69
    go_wp2_with (go_at_call 53; refine (arity_any _ _).mono ?_; rintro e w1 ⟨rfl, rfl⟩; rw [Ha.out])
    go_ret
    exact ⟨ret_bool (by simp [kidsOk, Ha.out]), (Below.refl _ _).alloc (Nat.le_refl _) _⟩

/-- The cells of a list of yes and no. -/
def bls (l : List Bool) : List Value := l.map Value.bool
theorem bls_get (l : List Bool) (k : Nat) : (bls l)[k]? = l[k]?.map Value.bool := by simp [bls]
theorem bls_set (l : List Bool) (k : Nat) (v : Bool) : (bls l).set k (.bool v) = bls (l.set k v) := by simp [bls, List.map_set]

theorem claim_out (g i n : Nat) (at_ : Int) (w : World) (hi : i ≤ 1048576) (h : Hid (inR at_ 0 ((i : Int) - 1) = false)) :
    Calls Try.prog 79 #[.slice (some ⟨g, 0, none⟩) i n, .int .i64 at_] w fun e w' => e = .returned (.bool false) ∧ w = w' := by
  go_enter Try.func79, Try.ntmps79
  go_wp2_with (go_at_call 59; refine (within_any _ _ _ _).mono ?_; rintro e w1 ⟨rfl, rfl⟩; rw [h.out])
  go_ret
  exact ⟨rfl, rfl⟩

/-- Only block g, and what is new, is another one. -/
theorem grown_new (w : World) (o : Obj) (row : Option Nat) : w.grownBy (w.alloc o) row := World.grownBy_alloc w o row
theorem grown_set {a w : World} {g : Nat} (h : a.grownBy w (some g)) (i : Nat) (u : Value) : a.grownBy (w.setCell ⟨g, i, none⟩ u) (some g) :=
  ⟨h.os, h.tape, h.output, by simpa [World.setCell] using h.size, fun j hj hne => (Below.heap_setCell w ⟨g, i, none⟩ u j (by rintro rfl; exact hne rfl)).trans (h.block j hj hne)⟩
theorem grown_trans {a w v : World} {row : Option Nat} (h : a.grownBy w row) (k : w.grownBy v row) : a.grownBy v row :=
  ⟨k.os.trans h.os, k.tape.trans h.tape, k.output.trans h.output, Nat.le_trans h.size k.size, fun j hj hne => (k.block j (Nat.lt_of_lt_of_le hj h.size) hne).trans (h.block j hj hne)⟩
theorem below_grown {a w : World} (h : Below a.heap.size a w) (row : Option Nat) : a.grownBy w row := ⟨h.os, h.tape, h.output, h.size, fun j hj _ => h.block j hj⟩

set_option maxHeartbeats 400000 in
theorem claim_free (g i n at_ : Nat) (us : List Bool) (w : World) (hi : i ≤ 1048576) (hat : at_ < i) (hb : Hid (Bk w g 4 (bls us))) (hu : Hid (us[at_]? = some false)) :
    Calls Try.prog 79 #[.slice (some ⟨g, 0, none⟩) i n, .int .i64 at_] w fun e w' => e = .returned (.bool true) ∧ Bk w' g 4 (bls (us.set at_ true)) ∧ w.grownBy w' (some g) := by
  have hin : Hid (inR (at_ : Int) 0 ((i : Int) - 1) = true) := inR_yes (by omega) (by omega)
  have hc : w.cell? ⟨g, at_, none⟩ = some (.bool false) := by rw [hb.out.cell, bls_get, hu.out]; rfl
  have hf := hb.out.free at_
  go_enter Try.func79, Try.ntmps79
  go_wp2_with (go_at_call 59; refine (within_any _ _ _ _).mono ?_; rintro e w1 ⟨rfl, rfl⟩; rw [hin.out])
  go_ret
  exact ⟨rfl, by rw [← bls_set]; exact hb.out.set_ _ _, grown_set (World.grownBy.refl _ _) _ _⟩

set_option maxHeartbeats 400000 in
theorem claim_taken (g i n at_ : Nat) (us : List Bool) (w : World) (hi : i ≤ 1048576) (hat : at_ < i) (hb : Hid (Bk w g 4 (bls us))) (hu : Hid (us[at_]? = some true)) :
    Calls Try.prog 79 #[.slice (some ⟨g, 0, none⟩) i n, .int .i64 at_] w fun e w' => e = .returned (.bool false) ∧ w = w' := by
  have hin : Hid (inR (at_ : Int) 0 ((i : Int) - 1) = true) := inR_yes (by omega) (by omega)
  have hc : w.cell? ⟨g, at_, none⟩ = some (.bool true) := by rw [hb.out.cell, bls_get, hu.out]; rfl
  go_enter Try.func79, Try.ntmps79
  go_wp2_with (go_at_call 59; refine (within_any _ _ _ _).mono ?_; rintro e w1 ⟨rfl, rfl⟩; rw [hin.out])
  go_ret
  exact ⟨rfl, rfl⟩

theorem free_of {us : List Bool} {j i : Nat} (hj : j < i) (hi : i ≤ us.length) : us[j]? = some true ∨ us[j]? = some false := by
  obtain ⟨b, hb⟩ := get_of_lt us (k := j) (by omega)
  cases b
  · exact .inr hb
  · exact .inl hb

/-- What is known behind the marking of the nodes below x. -/
def Placed (w w' : World) (g : Nat) (us : List Bool) (x : Nd) (b : Bool) : Prop := w.grownBy w' (some g) ∧ (b = true → Bk w' g 4 (bls (marked x us)))

set_option maxHeartbeats 1600000 in
theorem places_any (k a b n m : Int) (g i c : Nat) (us : List Bool) (w : World) (hi : i ≤ 1048576) (hiu : i ≤ us.length) (hb : Bk w g 4 (bls us)) :
    Calls Try.prog 61 #[.agg #[.int .i64 k, .int .i64 a, .int .i64 b, .int .i64 n, .int .i64 m], .slice (some ⟨g, 0, none⟩) i c] w
      fun e w' => e = .returned (.bool (placesOk ⟨k, a, b, n, m⟩ us i)) ∧ Placed w w' g us ⟨k, a, b, n, m⟩ (placesOk ⟨k, a, b, n, m⟩ us i) := by
  obtain ⟨o, ho⟩ : ∃ o : Obj, o = .cells #[.int .i64 k, .int .i64 a, .int .i64 b, .int .i64 n, .int .i64 m] 69 := ⟨_, rfl⟩
  have hb1 := hb.alloc o
  have hg1 := grown_new w o (some g)
  have hgw : g ≠ w.heap.size := Nat.ne_of_lt hb.lt
  subst ho
  have Hb1 := Lib.hid hb1
  have Hg1 := Lib.hid hg1
  clear hb1 hg1
  rcases arity_cases k with ha | ha | ha | ha
  · have Ha := Lib.hid ha
    have Hb := Lib.hid hb
    clear ha hb
    cases h1 : (a == -1)
    · go_enter Try.func61, Try.ntmps61
      go_wp2_with (go_at_call 54; refine (nodesBelow_any _ _).mono ?_; rintro e w1 ⟨rfl, rfl⟩; rw [Ha.out])
      go_ret
      have e : placesOk ⟨k, a, b, n, m⟩ us i = false := by simp [placesOk, Ha.out, h1]
      rw [e]
      exact ⟨rfl, Hg1.out, fun h => by cases h⟩
    · cases h2 : (b == -1)
      all_goals
        go_enter Try.func61, Try.ntmps61
        go_wp2_with (go_at_call 54; refine (nodesBelow_any _ _).mono ?_; rintro e w1 ⟨rfl, rfl⟩; rw [Ha.out])
        go_ret
      · have e : placesOk ⟨k, a, b, n, m⟩ us i = false := by simp [placesOk, Ha.out, h1, h2]
        rw [e]
        exact ⟨rfl, Hg1.out, fun h => by cases h⟩
      · have e : placesOk ⟨k, a, b, n, m⟩ us i = true := by simp [placesOk, Ha.out, h1, h2]
        rw [e]
        exact ⟨rfl, Hg1.out, fun _ => by simpa [marked, Ha.out] using Hb1.out⟩
  · have Ha := Lib.hid ha
    have Hb := Lib.hid hb
    clear ha hb
    cases h1 : inR a 0 ((i : Int) - 1)
    · have H1 := Lib.hid h1
      clear h1
      go_enter Try.func61, Try.ntmps61
      go_wp2_with (first | (go_at_call 54; refine (nodesBelow_any _ _).mono ?_; rintro e w1 ⟨rfl, rfl⟩; rw [Ha.out]) | (go_at_call 79; refine (claim_out _ _ _ _ _ hi H1).mono ?_; rintro e w1 ⟨rfl, rfl⟩))
      go_ret
      have e : placesOk ⟨k, a, b, n, m⟩ us i = false := by simp [placesOk, Ha.out, H1.out]
      rw [e]
      exact ⟨rfl, Hg1.out, fun h => by cases h⟩
    · obtain ⟨h1a, h1b⟩ := inR_iff.1 h1
      have H1 := Lib.hid h1
      clear h1
      obtain ⟨a', rfl⟩ := Int.eq_ofNat_of_zero_le h1a
      have hai : a' < i := by omega
      rcases free_of hai hiu with hu | hu
      · have Hu := Lib.hid hu
        clear hu
        go_enter Try.func61, Try.ntmps61
        go_wp2_with (first | (go_at_call 54; refine (nodesBelow_any _ _).mono ?_; rintro e w1 ⟨rfl, rfl⟩; rw [Ha.out]) | (go_at_call 79; refine (claim_taken _ _ _ _ _ _ hi hai Hb1 Hu).mono ?_; rintro e w1 ⟨rfl, rfl⟩))
        go_ret
        have e : placesOk ⟨k, a', b, n, m⟩ us i = false := by simp [placesOk, Ha.out, Hu.out]
        rw [e]
        exact ⟨rfl, Hg1.out, fun h => by cases h⟩
      · have Hu := Lib.hid hu
        clear hu
        cases h2 : (b == -1)
        all_goals
          go_enter Try.func61, Try.ntmps61
          go_wp2_with (first | (go_at_call 54; refine (nodesBelow_any _ _).mono ?_; rintro e w1 ⟨rfl, rfl⟩; rw [Ha.out]) | (go_at_call 79; refine (claim_free _ _ _ _ _ _ hi hai Hb1 Hu).mono ?_; rintro e w1 ⟨rfl, hb2, hg2⟩; have d2 : w1.cell? ⟨w.heap.size, 2, none⟩ = some (.int .i64 b) := hg2.cell (by simp [go_sem]) (by simpa using Ne.symm hgw); have Hb2 := Lib.hid hb2; have Hg2 := Lib.hid hg2; clear hb2 hg2))
          go_ret
        · have e : placesOk ⟨k, a', b, n, m⟩ us i = false := by simp [placesOk, Ha.out, h2]
          rw [e]
          exact ⟨rfl, grown_trans Hg1.out Hg2.out, fun h => by cases h⟩
        · have e : placesOk ⟨k, a', b, n, m⟩ us i = true := by simp [placesOk, Ha.out, H1.out, Hu.out, h2]
          rw [e]
          exact ⟨rfl, grown_trans Hg1.out Hg2.out, fun _ => by simpa [marked, Ha.out] using Hb2.out⟩
  · have Ha := Lib.hid ha
    have Hb := Lib.hid hb
    clear ha hb
    cases h1 : inR a 0 ((i : Int) - 1)
    · have H1 := Lib.hid h1
      clear h1
      go_enter Try.func61, Try.ntmps61
      go_wp2_with (first | (go_at_call 54; refine (nodesBelow_any _ _).mono ?_; rintro e w1 ⟨rfl, rfl⟩; rw [Ha.out]) | (go_at_call 79; refine (claim_out _ _ _ _ _ hi H1).mono ?_; rintro e w1 ⟨rfl, rfl⟩))
      go_ret
      have e : placesOk ⟨k, a, b, n, m⟩ us i = false := by simp [placesOk, Ha.out, H1.out]
      rw [e]
      exact ⟨rfl, Hg1.out, fun h => by cases h⟩
    · obtain ⟨h1a, h1b⟩ := inR_iff.1 h1
      have H1 := Lib.hid h1
      clear h1
      obtain ⟨a', rfl⟩ := Int.eq_ofNat_of_zero_le h1a
      have hai : a' < i := by omega
      rcases free_of hai hiu with hu | hu
      · have Hu := Lib.hid hu
        clear hu
        go_enter Try.func61, Try.ntmps61
        go_wp2_with (first | (go_at_call 54; refine (nodesBelow_any _ _).mono ?_; rintro e w1 ⟨rfl, rfl⟩; rw [Ha.out]) | (go_at_call 79; refine (claim_taken _ _ _ _ _ _ hi hai Hb1 Hu).mono ?_; rintro e w1 ⟨rfl, rfl⟩))
        go_ret
        have e : placesOk ⟨k, a', b, n, m⟩ us i = false := by simp [placesOk, Ha.out, Hu.out]
        rw [e]
        exact ⟨rfl, Hg1.out, fun h => by cases h⟩
      · have Hu := Lib.hid hu
        clear hu
        go_enter Try.func61, Try.ntmps61
        go_wp2_with fail
        refine (nodesBelow_any _ _).mono ?_
        rintro e w1 ⟨rfl, rfl⟩
        rw [Ha.out]
        go_wp2_with fail
        refine (claim_free _ _ _ _ _ _ hi hai Hb1 Hu).mono ?_
        rintro e w1 ⟨rfl, hb2, hg2⟩
        have d2 : w1.cell? ⟨w.heap.size, 2, none⟩ = some (.int .i64 b) := hg2.cell (by simp [go_sem]) (by simpa using Ne.symm hgw)
        have Hb2 := Lib.hid hb2
        have Hg2 := Lib.hid hg2
        clear hb2 hg2
        go_wp2_with fail
        cases h2 : inR b 0 ((i : Int) - 1)
        · have H2 := Lib.hid h2
          clear h2
          refine (claim_out _ _ _ _ _ hi H2).mono ?_
          rintro e w2 ⟨rfl, rfl⟩
          go_wp2_with fail
          go_ret
          have e : placesOk ⟨k, a', b, n, m⟩ us i = false := by simp [placesOk, Ha.out, H2.out]
          rw [e]
          exact ⟨rfl, grown_trans Hg1.out Hg2.out, fun h => by cases h⟩
        · obtain ⟨h2a, h2b⟩ := inR_iff.1 h2
          have H2 := Lib.hid h2
          clear h2
          obtain ⟨b', rfl⟩ := Int.eq_ofNat_of_zero_le h2a
          have hbi : b' < i := by omega
          rcases free_of (us := us.set a' true) hbi (by rw [List.length_set]; exact hiu) with hv | hv
          · have Hv := Lib.hid hv
            clear hv
            refine (claim_taken _ _ _ _ _ _ hi hbi Hb2 Hv).mono ?_
            rintro e w2 ⟨rfl, rfl⟩
            go_wp2_with fail
            go_ret
            have e : placesOk ⟨k, a', b', n, m⟩ us i = false := by simp [placesOk, Ha.out, Hv.out]
            rw [e]
            exact ⟨rfl, grown_trans Hg1.out Hg2.out, fun h => by cases h⟩
          · have Hv := Lib.hid hv
            clear hv
            refine (claim_free _ _ _ _ _ _ hi hbi Hb2 Hv).mono ?_
            rintro e w2 ⟨rfl, hb3, hg3⟩
            have Hb3 := Lib.hid hb3
            have Hg3 := Lib.hid hg3
            clear hb3 hg3
            go_wp2_with fail
            go_ret
            have e : placesOk ⟨k, a', b', n, m⟩ us i = true := by simp [placesOk, Ha.out, H1.out, Hu.out, H2.out, Hv.out]
            rw [e]
            exact ⟨rfl, grown_trans (grown_trans Hg1.out Hg2.out) Hg3.out, fun _ => by simpa [marked, Ha.out] using Hb3.out⟩
  · have Ha := Lib.hid ha
    clear ha
    go_enter Try.func61, Try.ntmps61
    go_wp2_with (go_at_call 54; refine (nodesBelow_any _ _).mono ?_; rintro e w1 ⟨rfl, rfl⟩; rw [Ha.out])
    go_ret
    have e : placesOk ⟨k, a, b, n, m⟩ us i = false := by simp [placesOk, Ha.out]
    rw [e]
    exact ⟨rfl, Hg1.out, fun h => by cases h⟩

end Go.Proofs.Ytkjhncohanfciaa

/- Contracts: whether a pipe is valid, told by the program (marks). -/
namespace Go.Proofs.Ytkjhncohanfciaa
open Go.RowKit

theorem Try.infoBool : (Try.prog.info? 4).map (fun i => (i.zero, i.size, i.bytes)) = some (some (.bool false), 1, 1) := by kernel_rfl

theorem Bk.afterDraw {w w1 : World} {g : Nat} {t : TypeId} {cs : List Value} (h : Bk w g t cs) (hb : Below w.drew.heap.size w.drew w1) : Bk w1 g t cs := (hb.block g h.lt).trans h
theorem below_placed {w w1 w2 : World} {g : Nat} (h : Below w.heap.size w w1) (k : w1.grownBy w2 (some g)) (hg : w.heap.size ≤ g) : Below w.heap.size w w2 :=
  h.grown k h.size (fun j hj => by obtain rfl := Option.some.inj hj; exact hg)
theorem nodeOk_of {x : Nd} {k : Nat} (h : (numsOk x && known x.k) = true) (h2 : kidsOk x k = true) : nodeOk x k = true := by
  simp only [Bool.and_eq_true] at h
  simp [nodeOk, h.1, h2]
theorem marks_made (w : World) (g : Nat) (o : Obj) (l : List Nd) (hg : g = (w.alloc o).heap.size) : Bk ((w.alloc o).alloc (.cells (madeCells #[.bool false] l.length) 4)) g 4 (bls (marks l 0 l.length)) := by
  subst hg
  have e : madeCells #[Value.bool false] l.length = (bls (marks l 0 l.length)).toArray := by
    rw [marks_zero]
    have : bls (List.replicate l.length false) = (madeCells #[Value.bool false] l.length).toList := by rw [toList_madeCells_one]; simp [bls]
    rw [this]
  rw [e]
  exact Bk.new _ _ _
theorem contains_succ {us : List Bool} {k : Nat} {b v : Bool} (h : us[k]? = some b) : (us.take (k + 1)).contains v = ((us.take k).contains v || (v == b)) := by
  rw [take_succ_of h]
  simp only [List.contains_eq_mem, List.mem_append, List.mem_singleton]
  cases v <;> cases b <;> simp
theorem contains_take {us : List Bool} {k n : Nat} {v : Bool} (hk : k ≤ n) (h : (us.take k).contains v = true) : (us.take n).contains v = true := by
  simp only [List.contains_eq_mem, decide_eq_true_eq] at h ⊢
  exact List.take_subset_take_left us hk h

theorem implNums_any (x : Nd) (w : World) :
    Calls Try.prog 60 #[.agg #[.int .i64 x.k, .int .i64 x.a, .int .i64 x.b, .int .i64 x.n, .int .i64 x.m]] w fun e w' => e = .returned (.bool (numsOk x && known x.k)) ∧ Below w.heap.size w w' := implNums_kind x.k x.a x.b x.n x.m w
theorem specNums_any (x : Nd) (w : World) :
    Calls Try.prog 68 #[.agg #[.int .i64 x.k, .int .i64 x.a, .int .i64 x.b, .int .i64 x.n, .int .i64 x.m]] w fun e w' => e = .returned (.bool (numsOk x)) ∧ Below w.heap.size w w' := specNums_kind x.k x.a x.b x.n x.m w

theorem implNums_q {x : Nd} {w : World} {d : Nat} {os : Array Obj} {b : Bool} (hb : Hid ((numsOk x && known x.k) = b)) :
    Calls Try.prog 60 #[.agg #[.int .i64 x.k, .int .i64 x.a, .int .i64 x.b, .int .i64 x.n, .int .i64 x.m]] (Go.Sort.grow (redrawn w d) os) fun e w'' => e = .returned (.bool b) ∧ ∃ p : Regrown, w'' = Go.Sort.grow (redrawn w p.d) p.os :=
  Calls.regrown_of ((implNums_any x _).mono fun _ _ ⟨he, h⟩ => ⟨by rw [he, hb.out], h⟩)

/-- An index at least 0 tells that v is there. -/
def IdxIs (us : List Bool) (n : Nat) (v : Bool) (e : Ending) : Prop := ∃ r : Int, e = .returned (.int .i64 r) ∧ decide (0 ≤ r) = (us.take n).contains v

set_option maxHeartbeats 400000 in
theorem index_any (g n c : Nat) (us : List Bool) (v : Bool) (w : World) (hb : Hid (Bk w g 4 (bls us))) (hn : n ≤ us.length) (hs : n ≤ 1048576) :
    Calls Try.prog 80 #[.slice (some ⟨g, 0, none⟩) n c, .bool v] w fun e w' => IdxIs us n v e ∧ w = w' := by
  go_enter Try.func80, Try.ntmps80
  go_wp2
  go_loop [8] (fun i => ∃ k : Nat, k ≤ n ∧ i = .int .i64 k ∧ (us.take k).contains v = false) (fun i => n - (intOf i).toNat)
  case atStart => exact ⟨0, Nat.zero_le _, rfl, by simp⟩
  case round =>
    obtain ⟨k, hk, rfl, hall⟩ := hrel
    have Hall := Lib.hid hall
    clear hall
    by_cases hlt : k < n
    · obtain ⟨b, hx⟩ := get_of_lt us (k := k) (by omega)
      have hc : w.cell? ⟨g, k, none⟩ = some (.bool b) := by rw [hb.out.cell, bls_get, hx]; rfl
      have Hx := Lib.hid hx
      clear hx
      have Hc := contains_succ (v := v) Hx.out
      rw [Hall.out] at Hc
      have HC := Lib.hid Hc
      clear Hc
      cases hvb : (v == b)
      · have HV := Lib.hid hvb
        go_wp2
        go_round
        case rel => exact ⟨k + 1, by omega, by go_num, by rw [HC.out, HV.out]; rfl⟩
        case measure => simp [intOf]; omega
      · have HV := Lib.hid hvb
        go_wp2
        go_ret
        exact ⟨⟨k, rfl, by rw [contains_take (k := k + 1) (by omega) (by rw [HC.out, HV.out]; rfl)]; simp⟩, rfl⟩
    · obtain rfl : k = n := by omega
      go_wp2
      go_ret
      exact ⟨⟨-1, rfl, by rw [Hall.out]; rfl⟩, rfl⟩

theorem contains_any (g n c : Nat) (us : List Bool) (v : Bool) (w : World) (hb : Hid (Bk w g 4 (bls us))) (hn : n ≤ us.length) (hs : n ≤ 1048576) :
    Calls Try.prog 62 #[.slice (some ⟨g, 0, none⟩) n c, .bool v] w fun e w' => e = .returned (.bool ((us.take n).contains v)) ∧ w = w' := by
  go_enter Try.func62, Try.ntmps62
  go_wp2_with (go_at_call 80; refine (index_any _ _ _ _ _ _ hb hn hs).mono ?_; rintro e w1 ⟨⟨r, rfl, hr⟩, rfl⟩; have Hr := Lib.hid hr; clear hr)
  go_ret
  exact ⟨ret_bool Hr.out, rfl⟩

set_option maxHeartbeats 3200000 in
theorem implValidPipe_any (A : Option Addr) (c : Nat) (l : List Nd) (w : World) (B : Nat) (h : RdN w B A l) (hB : B ≤ w.heap.size) (hn : l.length ≤ 1048576) :
    Calls Try.prog 39 #[.agg #[.slice A l.length c]] w fun e w' => e = .returned (.bool (pipeOk l)) ∧ Below w.heap.size w w' := by
  cases hr : inR l.length 1 12
  · have Hr := Lib.hid hr
    have hno : Hid (pipeOk l = false) := pipeOk_no fun hp => by rw [inR_yes (by have := hp.low; omega) (by have := hp.high; omega)] at hr; cases hr
    clear hr
    go_enter Try.func39, Try.ntmps39
    go_wp2_with (go_at_call 59; refine (within_any _ _ _ _).mono ?_; rintro e w1 ⟨rfl, rfl⟩; rw [Hr.out])
    go_ret
    exact ⟨ret_bool hno.out.symm, (Below.refl _ _).alloc (Nat.le_refl _) _⟩
  · have Hr := Lib.hid hr
    obtain ⟨hr1, hr2⟩ := inR_iff.1 hr
    clear hr
    have hmk := run_make_row' (P := Try.prog) 75 4 (.bool false) 1 Try.underlying75 Try.infoBool rfl .i64 .i64 l.length (by omega) (by omega)
    go_enter Try.func39, Try.ntmps39
    go_wp2_with (go_at_call 59; refine (within_any _ _ _ _).mono ?_; rintro e w1 ⟨rfl, rfl⟩; rw [Hr.out])
    clear hmk
    go_loopw [18] (fun i wr => ∃ k : Nat, k ≤ l.length ∧ i = .int .i64 k ∧ Good l k ∧ Single l k ∧ Bk wr (w.heap.size + 1) 4 (bls (marks l k l.length)) ∧ Below w.heap.size w wr) (fun i _ => l.length - (intOf i).toNat)
    case atStart => exact ⟨0, Nat.zero_le _, rfl, Good.zero _, Single.zero _, marks_made _ _ _ _ (by simp), ((Below.refl _ _).alloc (Nat.le_refl _) _).alloc (by simp) _⟩
    case round =>
      obtain ⟨k, hk, rfl, hgood, hsing, hbk, hbl⟩ := hrel
      by_cases hlt : k < l.length
      · obtain ⟨b, o, x, rfl, hbB, hx, hc⟩ := (h.below hbl hB).at_ hlt
        obtain ⟨c0, c1, c2, c3, c4⟩ := hc
        have Hgood := Lib.hid hgood
        have Hsing := Lib.hid hsing
        have Hbk := Lib.hid hbk
        have Hbl := Lib.hid hbl
        have Hx := Lib.hid hx
        clear hgood hsing hbk hbl hx h
        have hgw : w.heap.size + 1 < wr.heap.size := Hbk.out.lt
        have hsz := Hbl.out.size
        have hal := Hbl.out.alloc hsz (.cells #[.int .i64 x.k, .int .i64 x.a, .int .i64 x.b, .int .i64 x.n, .int .i64 x.m] 69)
        have hbk0 := Hbk.out.alloc (.cells #[.int .i64 x.k, .int .i64 x.a, .int .i64 x.b, .int .i64 x.n, .int .i64 x.m] 69)
        have Hal := Lib.hid hal
        have Hbk0 := Lib.hid hbk0
        have hk20 : k ≤ 1048576 := by omega
        have hku : k ≤ (marks l k l.length).length := by rw [marks_len]; exact hk
        have Hku := Lib.hid hku
        clear hal hbk0 hku
        cases hnk : (numsOk x && known x.k)
        · have Hnk := Lib.hid hnk
          clear hnk
          go_wp2
          have q0 := cell_regrown (w := wr.alloc (.cells #[.int .i64 x.k, .int .i64 x.a, .int .i64 x.b, .int .i64 x.n, .int .i64 x.m] 69)) (a := ⟨wr.heap.size, 0, none⟩) (v := .int .i64 x.k) (by simp [go_sem])
          have q1 := cell_regrown (w := wr.alloc (.cells #[.int .i64 x.k, .int .i64 x.a, .int .i64 x.b, .int .i64 x.n, .int .i64 x.m] 69)) (a := ⟨wr.heap.size, 1, none⟩) (v := .int .i64 x.a) (by simp [go_sem])
          have q2 := cell_regrown (w := wr.alloc (.cells #[.int .i64 x.k, .int .i64 x.a, .int .i64 x.b, .int .i64 x.n, .int .i64 x.m] 69)) (a := ⟨wr.heap.size, 2, none⟩) (v := .int .i64 x.b) (by simp [go_sem])
          have q3 := cell_regrown (w := wr.alloc (.cells #[.int .i64 x.k, .int .i64 x.a, .int .i64 x.b, .int .i64 x.n, .int .i64 x.m] 69)) (a := ⟨wr.heap.size, 3, none⟩) (v := .int .i64 x.n) (by simp [go_sem])
          have q4 := cell_regrown (w := wr.alloc (.cells #[.int .i64 x.k, .int .i64 x.a, .int .i64 x.b, .int .i64 x.n, .int .i64 x.m] 69)) (a := ⟨wr.heap.size, 4, none⟩) (v := .int .i64 x.m) (by simp [go_sem])
          refine wp_region_quiet_below (by kernel_rfl) (by kernel_rfl) ?_
          repeat (quiet_step ((go_at_call 60; go_must (exact implNums_q Hnk))))
          refine wpQuiet_nil ?_
          intro wq hwq
          obtain ⟨p, hwq⟩ := hwq
          have Hb : Hid (Below (wr.alloc (.cells #[.int .i64 x.k, .int .i64 x.a, .int .i64 x.b, .int .i64 x.n, .int .i64 x.m] 69)).heap.size (wr.alloc (.cells #[.int .i64 x.k, .int .i64 x.a, .int .i64 x.b, .int .i64 x.n, .int .i64 x.m] 69)) wq) := by
            rw [hwq]; exact below_regrown _ _ _
          clear hwq q0 q1 q2 q3 q4
          go_wp2
          go_ret
          exact ⟨ret_bool (pipeOk_no (nums_no Hx.out Hnk.out)).symm, Hal.out.trans (Hb.out.mono Hal.out.size)⟩
        · have Hnk := Lib.hid hnk
          clear hnk
          cases hpl : placesOk x (marks l k l.length) k
          · have Hpl := Lib.hid hpl
            clear hpl
            go_wp2
            go_region_with (first | (go_at_call 60; go_must (refine (implNums_any x _).mono ?_; rintro e w1 ⟨rfl, hb⟩; rw [Hnk.out]; have d0 := (hb.cell (p := ⟨wr.heap.size, 0, none⟩) (by simp)).trans (by simp [go_sem] : _ = some (Value.int .i64 x.k)); have d1 := (hb.cell (p := ⟨wr.heap.size, 1, none⟩) (by simp)).trans (by simp [go_sem] : _ = some (Value.int .i64 x.a)); have d2 := (hb.cell (p := ⟨wr.heap.size, 2, none⟩) (by simp)).trans (by simp [go_sem] : _ = some (Value.int .i64 x.b)); have d3 := (hb.cell (p := ⟨wr.heap.size, 3, none⟩) (by simp)).trans (by simp [go_sem] : _ = some (Value.int .i64 x.n)); have d4 := (hb.cell (p := ⟨wr.heap.size, 4, none⟩) (by simp)).trans (by simp [go_sem] : _ = some (Value.int .i64 x.m)); have HBk1 := Lib.hid (Hbk0.out.afterDraw hb); have Hb := Lib.hid hb; clear hb)) | (go_at_call 61; go_must (refine (places_any x.k x.a x.b x.n x.m _ k _ (marks l k l.length) _ hk20 Hku.out HBk1.out).mono ?_; rintro e w2 ⟨rfl, hpp⟩; rw [Hpl.out]; rw [Hpl.out] at hpp; have Hpp := Lib.hid hpp; clear hpp)))
            all_goals
              go_wp2
              go_ret
              exact ⟨ret_bool (pipeOk_no (place_no Hx.out Hpl.out)).symm, below_placed (below_step Hal.out Hb.out) Hpp.out.1 (Nat.le_succ _)⟩
          · have Hpl := Lib.hid hpl
            clear hpl
            go_wp2
            go_region_with (first | (go_at_call 60; go_must (refine (implNums_any x _).mono ?_; rintro e w1 ⟨rfl, hb⟩; rw [Hnk.out]; have d0 := (hb.cell (p := ⟨wr.heap.size, 0, none⟩) (by simp)).trans (by simp [go_sem] : _ = some (Value.int .i64 x.k)); have d1 := (hb.cell (p := ⟨wr.heap.size, 1, none⟩) (by simp)).trans (by simp [go_sem] : _ = some (Value.int .i64 x.a)); have d2 := (hb.cell (p := ⟨wr.heap.size, 2, none⟩) (by simp)).trans (by simp [go_sem] : _ = some (Value.int .i64 x.b)); have d3 := (hb.cell (p := ⟨wr.heap.size, 3, none⟩) (by simp)).trans (by simp [go_sem] : _ = some (Value.int .i64 x.n)); have d4 := (hb.cell (p := ⟨wr.heap.size, 4, none⟩) (by simp)).trans (by simp [go_sem] : _ = some (Value.int .i64 x.m)); have HBk1 := Lib.hid (Hbk0.out.afterDraw hb); have Hb := Lib.hid hb; clear hb)) | (go_at_call 61; go_must (refine (places_any x.k x.a x.b x.n x.m _ k _ (marks l k l.length) _ hk20 Hku.out HBk1.out).mono ?_; rintro e w2 ⟨rfl, hpp⟩; rw [Hpl.out]; rw [Hpl.out] at hpp; have Hpp := Lib.hid hpp; clear hpp)))
            all_goals
              go_wp2
              go_roundw
              case rel => exact ⟨k + 1, by omega, by go_num, Hgood.out.succ Hx.out (nodeOk_of Hnk.out (place_yes Hx.out Hsing.out Hpl.out).1), (place_yes Hx.out Hsing.out Hpl.out).2.2, by rw [← (place_yes Hx.out Hsing.out Hpl.out).2.1]; exact Hpp.out.2 rfl, below_placed (below_step Hal.out Hb.out) Hpp.out.1 (Nat.le_succ _)⟩
              case measure => simp [intOf]; omega
      · obtain rfl : k = l.length := by omega
        have Hfin := Lib.hid (marks_end hgood hsing (by omega) (by omega))
        have Hbk := Lib.hid hbk
        have Hbl := Lib.hid hbl
        have hml : l.length - 1 ≤ (marks l l.length l.length).length := by rw [marks_len]; omega
        have Hml := Lib.hid hml
        clear hgood hsing hbk hbl h hml
        go_wp2_with fail
        have e1 : (((l.length : Nat) : Int) - 1).toNat = l.length - 1 := by omega
        try rw [e1]
        refine (contains_any _ (l.length - 1) _ (marks l l.length l.length) false _ Hbk Hml.out (by omega)).mono ?_
        rintro e w1 ⟨rfl, rfl⟩
        have Hc : Hid ((!((marks l l.length l.length).take (l.length - 1)).contains false) = pipeOk l) := Hfin.out.symm
        clear e1
        go_wp2_with fail
        go_ret
        exact ⟨ret_bool (by simpa using Hc.out), Hbl.out⟩

end Go.Proofs.Ytkjhncohanfciaa
