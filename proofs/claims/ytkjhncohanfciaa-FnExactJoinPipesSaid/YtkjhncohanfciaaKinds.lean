/- Contracts: the numbers of a node, in one; how many nodes are below a kind; whether the nodes below are earlier ones. -/
import Derived.Test.YtkjhncohanfciaaNums
namespace Go.Proofs.Ytkjhncohanfciaa
open Go.RowKit

/-- A kind is one of fourteen, or none of them. -/
theorem kinds (k : Int) : (k = 0 ∨ k = 1 ∨ k = 2 ∨ k = 3 ∨ k = 4 ∨ k = 5 ∨ k = 6 ∨ k = 7 ∨ k = 8 ∨ k = 9 ∨ k = 10 ∨ k = 11 ∨ k = 12 ∨ k = 13) ∨
    ((k == 0) = false ∧ (k == 1) = false ∧ (k == 2) = false ∧ (k == 3) = false ∧ (k == 4) = false ∧ (k == 5) = false ∧ (k == 6) = false ∧ (k == 7) = false ∧ (k == 8) = false ∧ (k == 9) = false ∧ (k == 10) = false ∧ (k == 11) = false ∧ (k == 12) = false ∧ (k == 13) = false) := by
  simp only [beq_eq_false_iff_ne, ne_eq]
  omega

theorem num_two {b c1 c2 v1 v2 r : Bool} (e : b = (c1 && c2)) (h : c1 = v1) (g : c2 = v2) (hr : (v1 && v2) = r := by rfl) : r = b := by rw [e, h, g, hr]
theorem num_one {b c1 c2 : Bool} (e : b = (c1 && c2)) (h : c1 = false) : false = b := by rw [e, h]; rfl

theorem specNums_kind (k a b n m : Int) (w : World) :
    Calls Try.prog 68 #[.agg #[.int .i64 k, .int .i64 a, .int .i64 b, .int .i64 n, .int .i64 m]] w fun e w' => e = .returned (.bool (numsOk ⟨k, a, b, n, m⟩)) ∧ Below w.heap.size w w' := by
  rcases kinds k with (rfl | rfl | rfl | rfl | rfl | rfl | rfl | rfl | rfl | rfl | rfl | rfl | rfl | rfl) | ⟨e0, e1, e2, e3, e4, e5, e6, e7, e8, e9, e10, e11, e12, e13⟩
  · cases h : inR n 0 2
    · exact (goodNumbers_k0_no1 a b n m w (Lib.hid h)).mono fun e w' ⟨he, hb⟩ => ⟨by rw [he]; exact ret_bool (num_one rfl h), hb⟩
    · cases g : (m == 0)
      · exact (goodNumbers_k0_no2 a b n m w (Lib.hid h) g).mono fun e w' ⟨he, hb⟩ => ⟨by rw [he]; exact ret_bool (num_two rfl h g), hb⟩
      · exact (goodNumbers_k0_yes a b n m w (Lib.hid h) g).mono fun e w' ⟨he, hb⟩ => ⟨by rw [he]; exact ret_bool (num_two rfl h g), hb⟩
  · cases h : inR n 0 99
    · exact (goodNumbers_k1_no1 a b n m w (Lib.hid h)).mono fun e w' ⟨he, hb⟩ => ⟨by rw [he]; exact ret_bool (num_one rfl h), hb⟩
    · cases g : inR m 0 (99)
      · exact (goodNumbers_k1_no2 a b n m w (Lib.hid h) (Lib.hid g)).mono fun e w' ⟨he, hb⟩ => ⟨by rw [he]; exact ret_bool (num_two rfl h g), hb⟩
      · exact (goodNumbers_k1_yes a b n m w (Lib.hid h) (Lib.hid g)).mono fun e w' ⟨he, hb⟩ => ⟨by rw [he]; exact ret_bool (num_two rfl h g), hb⟩
  · cases h : inR n 1 30
    · exact (goodNumbers_k2_no1 a b n m w (Lib.hid h)).mono fun e w' ⟨he, hb⟩ => ⟨by rw [he]; exact ret_bool (num_one rfl h), hb⟩
    · cases g : inR m 0 (n - 1)
      · exact (goodNumbers_k2_no2 a b n m w (Lib.hid h) (Lib.hid g) (inR_iff.1 h).1 (inR_iff.1 h).2).mono fun e w' ⟨he, hb⟩ => ⟨by rw [he]; exact ret_bool (num_two rfl h g), hb⟩
      · exact (goodNumbers_k2_yes a b n m w (Lib.hid h) (Lib.hid g) (inR_iff.1 h).1 (inR_iff.1 h).2).mono fun e w' ⟨he, hb⟩ => ⟨by rw [he]; exact ret_bool (num_two rfl h g), hb⟩
  · cases h : inR n 0 30
    · exact (goodNumbers_k3_no1 a b n m w (Lib.hid h)).mono fun e w' ⟨he, hb⟩ => ⟨by rw [he]; exact ret_bool (num_one rfl h), hb⟩
    · cases g : (m == 0)
      · exact (goodNumbers_k3_no2 a b n m w (Lib.hid h) g).mono fun e w' ⟨he, hb⟩ => ⟨by rw [he]; exact ret_bool (num_two rfl h g), hb⟩
      · exact (goodNumbers_k3_yes a b n m w (Lib.hid h) g).mono fun e w' ⟨he, hb⟩ => ⟨by rw [he]; exact ret_bool (num_two rfl h g), hb⟩
  · cases h : inR n 0 30
    · exact (goodNumbers_k4_no1 a b n m w (Lib.hid h)).mono fun e w' ⟨he, hb⟩ => ⟨by rw [he]; exact ret_bool (num_one rfl h), hb⟩
    · cases g : (m == 0)
      · exact (goodNumbers_k4_no2 a b n m w (Lib.hid h) g).mono fun e w' ⟨he, hb⟩ => ⟨by rw [he]; exact ret_bool (num_two rfl h g), hb⟩
      · exact (goodNumbers_k4_yes a b n m w (Lib.hid h) g).mono fun e w' ⟨he, hb⟩ => ⟨by rw [he]; exact ret_bool (num_two rfl h g), hb⟩
  · cases h : inR n 0 99
    · exact (goodNumbers_k5_no1 a b n m w (Lib.hid h)).mono fun e w' ⟨he, hb⟩ => ⟨by rw [he]; exact ret_bool (num_one rfl h), hb⟩
    · cases g : (m == 0)
      · exact (goodNumbers_k5_no2 a b n m w (Lib.hid h) g).mono fun e w' ⟨he, hb⟩ => ⟨by rw [he]; exact ret_bool (num_two rfl h g), hb⟩
      · exact (goodNumbers_k5_yes a b n m w (Lib.hid h) g).mono fun e w' ⟨he, hb⟩ => ⟨by rw [he]; exact ret_bool (num_two rfl h g), hb⟩
  · cases h : inR n 0 99
    · exact (goodNumbers_k6_no1 a b n m w (Lib.hid h)).mono fun e w' ⟨he, hb⟩ => ⟨by rw [he]; exact ret_bool (num_one rfl h), hb⟩
    · cases g : (m == 0)
      · exact (goodNumbers_k6_no2 a b n m w (Lib.hid h) g).mono fun e w' ⟨he, hb⟩ => ⟨by rw [he]; exact ret_bool (num_two rfl h g), hb⟩
      · exact (goodNumbers_k6_yes a b n m w (Lib.hid h) g).mono fun e w' ⟨he, hb⟩ => ⟨by rw [he]; exact ret_bool (num_two rfl h g), hb⟩
  · cases h : (n == 0)
    · exact (goodNumbers_rest_no1 a b n m w _ rfl rfl rfl rfl rfl rfl rfl rfl h).mono fun e w' ⟨he, hb⟩ => ⟨by rw [he]; exact ret_bool (num_one rfl h), hb⟩
    · cases g : (m == 0)
      · exact (goodNumbers_rest_no2 a b n m w _ rfl rfl rfl rfl rfl rfl rfl rfl h g).mono fun e w' ⟨he, hb⟩ => ⟨by rw [he]; exact ret_bool (num_two rfl h g), hb⟩
      · exact (goodNumbers_rest_yes a b n m w _ rfl rfl rfl rfl rfl rfl rfl rfl h g).mono fun e w' ⟨he, hb⟩ => ⟨by rw [he]; exact ret_bool (num_two rfl h g), hb⟩
  · cases h : (n == 0)
    · exact (goodNumbers_rest_no1 a b n m w _ rfl rfl rfl rfl rfl rfl rfl rfl h).mono fun e w' ⟨he, hb⟩ => ⟨by rw [he]; exact ret_bool (num_one rfl h), hb⟩
    · cases g : (m == 0)
      · exact (goodNumbers_rest_no2 a b n m w _ rfl rfl rfl rfl rfl rfl rfl rfl h g).mono fun e w' ⟨he, hb⟩ => ⟨by rw [he]; exact ret_bool (num_two rfl h g), hb⟩
      · exact (goodNumbers_rest_yes a b n m w _ rfl rfl rfl rfl rfl rfl rfl rfl h g).mono fun e w' ⟨he, hb⟩ => ⟨by rw [he]; exact ret_bool (num_two rfl h g), hb⟩
  · cases h : (n == 0)
    · exact (goodNumbers_rest_no1 a b n m w _ rfl rfl rfl rfl rfl rfl rfl rfl h).mono fun e w' ⟨he, hb⟩ => ⟨by rw [he]; exact ret_bool (num_one rfl h), hb⟩
    · cases g : (m == 0)
      · exact (goodNumbers_rest_no2 a b n m w _ rfl rfl rfl rfl rfl rfl rfl rfl h g).mono fun e w' ⟨he, hb⟩ => ⟨by rw [he]; exact ret_bool (num_two rfl h g), hb⟩
      · exact (goodNumbers_rest_yes a b n m w _ rfl rfl rfl rfl rfl rfl rfl rfl h g).mono fun e w' ⟨he, hb⟩ => ⟨by rw [he]; exact ret_bool (num_two rfl h g), hb⟩
  · cases h : (n == 0)
    · exact (goodNumbers_rest_no1 a b n m w _ rfl rfl rfl rfl rfl rfl rfl rfl h).mono fun e w' ⟨he, hb⟩ => ⟨by rw [he]; exact ret_bool (num_one rfl h), hb⟩
    · cases g : (m == 0)
      · exact (goodNumbers_rest_no2 a b n m w _ rfl rfl rfl rfl rfl rfl rfl rfl h g).mono fun e w' ⟨he, hb⟩ => ⟨by rw [he]; exact ret_bool (num_two rfl h g), hb⟩
      · exact (goodNumbers_rest_yes a b n m w _ rfl rfl rfl rfl rfl rfl rfl rfl h g).mono fun e w' ⟨he, hb⟩ => ⟨by rw [he]; exact ret_bool (num_two rfl h g), hb⟩
  · cases h : (n == 0)
    · exact (goodNumbers_rest_no1 a b n m w _ rfl rfl rfl rfl rfl rfl rfl rfl h).mono fun e w' ⟨he, hb⟩ => ⟨by rw [he]; exact ret_bool (num_one rfl h), hb⟩
    · cases g : (m == 0)
      · exact (goodNumbers_rest_no2 a b n m w _ rfl rfl rfl rfl rfl rfl rfl rfl h g).mono fun e w' ⟨he, hb⟩ => ⟨by rw [he]; exact ret_bool (num_two rfl h g), hb⟩
      · exact (goodNumbers_rest_yes a b n m w _ rfl rfl rfl rfl rfl rfl rfl rfl h g).mono fun e w' ⟨he, hb⟩ => ⟨by rw [he]; exact ret_bool (num_two rfl h g), hb⟩
  · cases h : inR n 1 30
    · exact (goodNumbers_k12_no1 a b n m w (Lib.hid h)).mono fun e w' ⟨he, hb⟩ => ⟨by rw [he]; exact ret_bool (num_one rfl h), hb⟩
    · cases g : (m == 0)
      · exact (goodNumbers_k12_no2 a b n m w (Lib.hid h) g).mono fun e w' ⟨he, hb⟩ => ⟨by rw [he]; exact ret_bool (num_two rfl h g), hb⟩
      · exact (goodNumbers_k12_yes a b n m w (Lib.hid h) g).mono fun e w' ⟨he, hb⟩ => ⟨by rw [he]; exact ret_bool (num_two rfl h g), hb⟩
  · cases h : (n == 0)
    · exact (goodNumbers_rest_no1 a b n m w _ rfl rfl rfl rfl rfl rfl rfl rfl h).mono fun e w' ⟨he, hb⟩ => ⟨by rw [he]; exact ret_bool (num_one rfl h), hb⟩
    · cases g : (m == 0)
      · exact (goodNumbers_rest_no2 a b n m w _ rfl rfl rfl rfl rfl rfl rfl rfl h g).mono fun e w' ⟨he, hb⟩ => ⟨by rw [he]; exact ret_bool (num_two rfl h g), hb⟩
      · exact (goodNumbers_rest_yes a b n m w _ rfl rfl rfl rfl rfl rfl rfl rfl h g).mono fun e w' ⟨he, hb⟩ => ⟨by rw [he]; exact ret_bool (num_two rfl h g), hb⟩
  · cases h : (n == 0)
    · exact (goodNumbers_rest_no1 a b n m w k e0 e1 e2 e3 e4 e5 e6 e12 h).mono fun e w' ⟨he, hb⟩ => ⟨by rw [he]; exact ret_bool (by simp [numsOk, e0, e1, e2, e3, e4, e5, e6, e12, h]), hb⟩
    · cases g : (m == 0)
      · exact (goodNumbers_rest_no2 a b n m w k e0 e1 e2 e3 e4 e5 e6 e12 h g).mono fun e w' ⟨he, hb⟩ => ⟨by rw [he]; exact ret_bool (by simp [numsOk, e0, e1, e2, e3, e4, e5, e6, e12, h, g]), hb⟩
      · exact (goodNumbers_rest_yes a b n m w k e0 e1 e2 e3 e4 e5 e6 e12 h g).mono fun e w' ⟨he, hb⟩ => ⟨by rw [he]; exact ret_bool (by simp [numsOk, e0, e1, e2, e3, e4, e5, e6, e12, h, g]), hb⟩

theorem implNums_kind (k a b n m : Int) (w : World) :
    Calls Try.prog 60 #[.agg #[.int .i64 k, .int .i64 a, .int .i64 b, .int .i64 n, .int .i64 m]] w fun e w' => e = .returned (.bool ((numsOk ⟨k, a, b, n, m⟩ && known k))) ∧ Below w.heap.size w w' := by
  rcases kinds k with (rfl | rfl | rfl | rfl | rfl | rfl | rfl | rfl | rfl | rfl | rfl | rfl | rfl | rfl) | ⟨e0, e1, e2, e3, e4, e5, e6, e7, e8, e9, e10, e11, e12, e13⟩
  · cases h : inR n 0 2
    · exact (numbersFit_k0_no1 a b n m w (Lib.hid h)).mono fun e w' ⟨he, hb⟩ => ⟨by rw [he]; exact ret_bool (num_one (Bool.and_true _) h), hb⟩
    · cases g : (m == 0)
      · exact (numbersFit_k0_no2 a b n m w (Lib.hid h) g).mono fun e w' ⟨he, hb⟩ => ⟨by rw [he]; exact ret_bool (num_two (Bool.and_true _) h g), hb⟩
      · exact (numbersFit_k0_yes a b n m w (Lib.hid h) g).mono fun e w' ⟨he, hb⟩ => ⟨by rw [he]; exact ret_bool (num_two (Bool.and_true _) h g), hb⟩
  · cases h : inR n 0 99
    · exact (numbersFit_k1_no1 a b n m w (Lib.hid h)).mono fun e w' ⟨he, hb⟩ => ⟨by rw [he]; exact ret_bool (num_one (Bool.and_true _) h), hb⟩
    · cases g : inR m 0 (99)
      · exact (numbersFit_k1_no2 a b n m w (Lib.hid h) (Lib.hid g)).mono fun e w' ⟨he, hb⟩ => ⟨by rw [he]; exact ret_bool (num_two (Bool.and_true _) h g), hb⟩
      · exact (numbersFit_k1_yes a b n m w (Lib.hid h) (Lib.hid g)).mono fun e w' ⟨he, hb⟩ => ⟨by rw [he]; exact ret_bool (num_two (Bool.and_true _) h g), hb⟩
  · cases h : inR n 1 30
    · exact (numbersFit_k2_no1 a b n m w (Lib.hid h)).mono fun e w' ⟨he, hb⟩ => ⟨by rw [he]; exact ret_bool (num_one (Bool.and_true _) h), hb⟩
    · cases g : inR m 0 (n - 1)
      · exact (numbersFit_k2_no2 a b n m w (Lib.hid h) (Lib.hid g) (inR_iff.1 h).1 (inR_iff.1 h).2).mono fun e w' ⟨he, hb⟩ => ⟨by rw [he]; exact ret_bool (num_two (Bool.and_true _) h g), hb⟩
      · exact (numbersFit_k2_yes a b n m w (Lib.hid h) (Lib.hid g) (inR_iff.1 h).1 (inR_iff.1 h).2).mono fun e w' ⟨he, hb⟩ => ⟨by rw [he]; exact ret_bool (num_two (Bool.and_true _) h g), hb⟩
  · cases h : inR n 0 30
    · exact (numbersFit_k3_no1 a b n m w (Lib.hid h)).mono fun e w' ⟨he, hb⟩ => ⟨by rw [he]; exact ret_bool (num_one (Bool.and_true _) h), hb⟩
    · cases g : (m == 0)
      · exact (numbersFit_k3_no2 a b n m w (Lib.hid h) g).mono fun e w' ⟨he, hb⟩ => ⟨by rw [he]; exact ret_bool (num_two (Bool.and_true _) h g), hb⟩
      · exact (numbersFit_k3_yes a b n m w (Lib.hid h) g).mono fun e w' ⟨he, hb⟩ => ⟨by rw [he]; exact ret_bool (num_two (Bool.and_true _) h g), hb⟩
  · cases h : inR n 0 30
    · exact (numbersFit_k4_no1 a b n m w (Lib.hid h)).mono fun e w' ⟨he, hb⟩ => ⟨by rw [he]; exact ret_bool (num_one (Bool.and_true _) h), hb⟩
    · cases g : (m == 0)
      · exact (numbersFit_k4_no2 a b n m w (Lib.hid h) g).mono fun e w' ⟨he, hb⟩ => ⟨by rw [he]; exact ret_bool (num_two (Bool.and_true _) h g), hb⟩
      · exact (numbersFit_k4_yes a b n m w (Lib.hid h) g).mono fun e w' ⟨he, hb⟩ => ⟨by rw [he]; exact ret_bool (num_two (Bool.and_true _) h g), hb⟩
  · cases h : inR n 0 99
    · exact (numbersFit_k5_no1 a b n m w (Lib.hid h)).mono fun e w' ⟨he, hb⟩ => ⟨by rw [he]; exact ret_bool (num_one (Bool.and_true _) h), hb⟩
    · cases g : (m == 0)
      · exact (numbersFit_k5_no2 a b n m w (Lib.hid h) g).mono fun e w' ⟨he, hb⟩ => ⟨by rw [he]; exact ret_bool (num_two (Bool.and_true _) h g), hb⟩
      · exact (numbersFit_k5_yes a b n m w (Lib.hid h) g).mono fun e w' ⟨he, hb⟩ => ⟨by rw [he]; exact ret_bool (num_two (Bool.and_true _) h g), hb⟩
  · cases h : inR n 0 99
    · exact (numbersFit_k6_no1 a b n m w (Lib.hid h)).mono fun e w' ⟨he, hb⟩ => ⟨by rw [he]; exact ret_bool (num_one (Bool.and_true _) h), hb⟩
    · cases g : (m == 0)
      · exact (numbersFit_k6_no2 a b n m w (Lib.hid h) g).mono fun e w' ⟨he, hb⟩ => ⟨by rw [he]; exact ret_bool (num_two (Bool.and_true _) h g), hb⟩
      · exact (numbersFit_k6_yes a b n m w (Lib.hid h) g).mono fun e w' ⟨he, hb⟩ => ⟨by rw [he]; exact ret_bool (num_two (Bool.and_true _) h g), hb⟩
  · cases h : (n == 0)
    · exact (numbersFit_k7_no1 a b n m w h).mono fun e w' ⟨he, hb⟩ => ⟨by rw [he]; exact ret_bool (num_one (Bool.and_true _) h), hb⟩
    · cases g : (m == 0)
      · exact (numbersFit_k7_no2 a b n m w h g).mono fun e w' ⟨he, hb⟩ => ⟨by rw [he]; exact ret_bool (num_two (Bool.and_true _) h g), hb⟩
      · exact (numbersFit_k7_yes a b n m w h g).mono fun e w' ⟨he, hb⟩ => ⟨by rw [he]; exact ret_bool (num_two (Bool.and_true _) h g), hb⟩
  · cases h : (n == 0)
    · exact (numbersFit_k8_no1 a b n m w h).mono fun e w' ⟨he, hb⟩ => ⟨by rw [he]; exact ret_bool (num_one (Bool.and_true _) h), hb⟩
    · cases g : (m == 0)
      · exact (numbersFit_k8_no2 a b n m w h g).mono fun e w' ⟨he, hb⟩ => ⟨by rw [he]; exact ret_bool (num_two (Bool.and_true _) h g), hb⟩
      · exact (numbersFit_k8_yes a b n m w h g).mono fun e w' ⟨he, hb⟩ => ⟨by rw [he]; exact ret_bool (num_two (Bool.and_true _) h g), hb⟩
  · cases h : (n == 0)
    · exact (numbersFit_k9_no1 a b n m w h).mono fun e w' ⟨he, hb⟩ => ⟨by rw [he]; exact ret_bool (num_one (Bool.and_true _) h), hb⟩
    · cases g : (m == 0)
      · exact (numbersFit_k9_no2 a b n m w h g).mono fun e w' ⟨he, hb⟩ => ⟨by rw [he]; exact ret_bool (num_two (Bool.and_true _) h g), hb⟩
      · exact (numbersFit_k9_yes a b n m w h g).mono fun e w' ⟨he, hb⟩ => ⟨by rw [he]; exact ret_bool (num_two (Bool.and_true _) h g), hb⟩
  · cases h : (n == 0)
    · exact (numbersFit_k10_no1 a b n m w h).mono fun e w' ⟨he, hb⟩ => ⟨by rw [he]; exact ret_bool (num_one (Bool.and_true _) h), hb⟩
    · cases g : (m == 0)
      · exact (numbersFit_k10_no2 a b n m w h g).mono fun e w' ⟨he, hb⟩ => ⟨by rw [he]; exact ret_bool (num_two (Bool.and_true _) h g), hb⟩
      · exact (numbersFit_k10_yes a b n m w h g).mono fun e w' ⟨he, hb⟩ => ⟨by rw [he]; exact ret_bool (num_two (Bool.and_true _) h g), hb⟩
  · cases h : (n == 0)
    · exact (numbersFit_k11_no1 a b n m w h).mono fun e w' ⟨he, hb⟩ => ⟨by rw [he]; exact ret_bool (num_one (Bool.and_true _) h), hb⟩
    · cases g : (m == 0)
      · exact (numbersFit_k11_no2 a b n m w h g).mono fun e w' ⟨he, hb⟩ => ⟨by rw [he]; exact ret_bool (num_two (Bool.and_true _) h g), hb⟩
      · exact (numbersFit_k11_yes a b n m w h g).mono fun e w' ⟨he, hb⟩ => ⟨by rw [he]; exact ret_bool (num_two (Bool.and_true _) h g), hb⟩
  · cases h : inR n 1 30
    · exact (numbersFit_k12_no1 a b n m w (Lib.hid h)).mono fun e w' ⟨he, hb⟩ => ⟨by rw [he]; exact ret_bool (num_one (Bool.and_true _) h), hb⟩
    · cases g : (m == 0)
      · exact (numbersFit_k12_no2 a b n m w (Lib.hid h) g).mono fun e w' ⟨he, hb⟩ => ⟨by rw [he]; exact ret_bool (num_two (Bool.and_true _) h g), hb⟩
      · exact (numbersFit_k12_yes a b n m w (Lib.hid h) g).mono fun e w' ⟨he, hb⟩ => ⟨by rw [he]; exact ret_bool (num_two (Bool.and_true _) h g), hb⟩
  · cases h : (n == 0)
    · exact (numbersFit_k13_no1 a b n m w h).mono fun e w' ⟨he, hb⟩ => ⟨by rw [he]; exact ret_bool (num_one (Bool.and_true _) h), hb⟩
    · cases g : (m == 0)
      · exact (numbersFit_k13_no2 a b n m w h g).mono fun e w' ⟨he, hb⟩ => ⟨by rw [he]; exact ret_bool (num_two (Bool.and_true _) h g), hb⟩
      · exact (numbersFit_k13_yes a b n m w h g).mono fun e w' ⟨he, hb⟩ => ⟨by rw [he]; exact ret_bool (num_two (Bool.and_true _) h g), hb⟩
  · exact (numbersFit_none a b n m w k e0 e1 e2 e3 e4 e5 e6 e12 e7 e8 e9 e10 e11 e13).mono fun e w' ⟨he, hb⟩ => ⟨by rw [he]; exact ret_bool (by simp [known, e0, e1, e2, e3, e4, e5, e6, e7, e8, e9, e10, e11, e12, e13]), hb⟩

theorem arity_any (k : Int) (w : World) : Calls Try.prog 53 #[.int .i64 k] w fun e w' => e = .returned (.int .i64 (arity k)) ∧ w = w' := by
  rcases kinds k with (rfl | rfl | rfl | rfl | rfl | rfl | rfl | rfl | rfl | rfl | rfl | rfl | rfl | rfl) | ⟨e0, e1, e2, e3, e4, e5, e6, e7, e8, e9, e10, e11, e12, e13⟩
  · go_enter Try.func53, Try.ntmps53
    go_wp2
    go_ret
    exact ⟨rfl, rfl⟩
  · go_enter Try.func53, Try.ntmps53
    go_wp2
    go_ret
    exact ⟨rfl, rfl⟩
  · go_enter Try.func53, Try.ntmps53
    go_wp2
    go_ret
    exact ⟨rfl, rfl⟩
  · go_enter Try.func53, Try.ntmps53
    go_wp2
    go_ret
    exact ⟨rfl, rfl⟩
  · go_enter Try.func53, Try.ntmps53
    go_wp2
    go_ret
    exact ⟨rfl, rfl⟩
  · go_enter Try.func53, Try.ntmps53
    go_wp2
    go_ret
    exact ⟨rfl, rfl⟩
  · go_enter Try.func53, Try.ntmps53
    go_wp2
    go_ret
    exact ⟨rfl, rfl⟩
  · go_enter Try.func53, Try.ntmps53
    go_wp2
    go_ret
    exact ⟨rfl, rfl⟩
  · go_enter Try.func53, Try.ntmps53
    go_wp2
    go_ret
    exact ⟨rfl, rfl⟩
  · go_enter Try.func53, Try.ntmps53
    go_wp2
    go_ret
    exact ⟨rfl, rfl⟩
  · go_enter Try.func53, Try.ntmps53
    go_wp2
    go_ret
    exact ⟨rfl, rfl⟩
  · go_enter Try.func53, Try.ntmps53
    go_wp2
    go_ret
    exact ⟨rfl, rfl⟩
  · go_enter Try.func53, Try.ntmps53
    go_wp2
    go_ret
    exact ⟨rfl, rfl⟩
  · go_enter Try.func53, Try.ntmps53
    go_wp2
    go_ret
    exact ⟨rfl, rfl⟩
  · go_enter Try.func53, Try.ntmps53
    go_wp2
    go_ret
    exact ⟨ret_int (by simp [arity, e0, e1, e2, e3, e4, e5, e6, e7, e8, e9, e10, e11, e12, e13]), rfl⟩

theorem nodesBelow_any (k : Int) (w : World) : Calls Try.prog 54 #[.int .i64 k] w fun e w' => e = .returned (.int .i64 (arity k)) ∧ w = w' := by
  rcases kinds k with (rfl | rfl | rfl | rfl | rfl | rfl | rfl | rfl | rfl | rfl | rfl | rfl | rfl | rfl) | ⟨e0, e1, e2, e3, e4, e5, e6, e7, e8, e9, e10, e11, e12, e13⟩
  · go_enter Try.func54, Try.ntmps54
    go_wp2
    go_ret
    exact ⟨rfl, rfl⟩
  · go_enter Try.func54, Try.ntmps54
    go_wp2
    go_ret
    exact ⟨rfl, rfl⟩
  · go_enter Try.func54, Try.ntmps54
    go_wp2
    go_ret
    exact ⟨rfl, rfl⟩
  · go_enter Try.func54, Try.ntmps54
    go_wp2
    go_ret
    exact ⟨rfl, rfl⟩
  · go_enter Try.func54, Try.ntmps54
    go_wp2
    go_ret
    exact ⟨rfl, rfl⟩
  · go_enter Try.func54, Try.ntmps54
    go_wp2
    go_ret
    exact ⟨rfl, rfl⟩
  · go_enter Try.func54, Try.ntmps54
    go_wp2
    go_ret
    exact ⟨rfl, rfl⟩
  · go_enter Try.func54, Try.ntmps54
    go_wp2
    go_ret
    exact ⟨rfl, rfl⟩
  · go_enter Try.func54, Try.ntmps54
    go_wp2
    go_ret
    exact ⟨rfl, rfl⟩
  · go_enter Try.func54, Try.ntmps54
    go_wp2
    go_ret
    exact ⟨rfl, rfl⟩
  · go_enter Try.func54, Try.ntmps54
    go_wp2
    go_ret
    exact ⟨rfl, rfl⟩
  · go_enter Try.func54, Try.ntmps54
    go_wp2
    go_ret
    exact ⟨rfl, rfl⟩
  · go_enter Try.func54, Try.ntmps54
    go_wp2
    go_ret
    exact ⟨rfl, rfl⟩
  · go_enter Try.func54, Try.ntmps54
    go_wp2
    go_ret
    exact ⟨rfl, rfl⟩
  · go_enter Try.func54, Try.ntmps54
    go_wp2
    go_ret
    exact ⟨ret_int (by simp [arity, e0, e1, e2, e3, e4, e5, e6, e7, e8, e9, e10, e11, e12, e13]), rfl⟩

end Go.Proofs.Ytkjhncohanfciaa
