/-
  What isn't named is zero: the law's closure.
-/
import Derived.Test.YtcepiapidcofiaaDoorEvLaw
import Derived.Laws.BitsLemmas
namespace Go.Proofs.YtcepiapidcofiaaDoor.Ev
open Go.ChangeShapes Go.WideShapes Go.RowKit Go.Sort Own

theorem and255 (n : Int) : bits .and .i64 n 255 = n % 256 := by
  have h31 : (BitVec.ofInt 64 255).toNat = 2 ^ 8 - 1 := by decide
  have key : (BitVec.ofInt 64 n &&& BitVec.ofInt 64 255).toNat = (n % ((2 ^ 64 : Nat) : Int)).toNat % 2 ^ 8 := by
    rw [BitVec.toNat_and, BitVec.toNat_ofInt, h31, Nat.and_two_pow_sub_one_eq_mod]
  show IntKind.i64.wrap ((BitVec.ofInt 64 n &&& BitVec.ofInt 64 255).toNat : Nat) = n % 256
  rw [key, IntKind.wrap_i64]
  omega
theorem kind_at (n : Int) : ∃ t : Nat, (bits .and .i64 n 255).tmod 12 = (t : Int) ∧ bits .and .i64 n 255 % 12 = (t : Int) ∧ n % 256 % 12 = (t : Int) ∧ t < 12 := by
  rw [and255]
  refine ⟨(n % 256 % 12).toNat, ?_, by omega, by omega, by omega⟩
  rw [Int.tmod_eq_emod_of_nonneg (by omega)]; omega
theorem info_sig : (Tryd.prog.info? 23).map (·.size) = some 5 := by kernel_rfl
/-- the signal's parts that are named -/
def bareD (K : Nat) (d : ByteArray) : ByteArray := if K = 2 ∨ K = 4 ∨ K = 6 ∨ K = 7 ∨ K = 12 then ⟨#[]⟩ else cutL d 60
def bareS (K : Nat) (s : Bool) : Bool := if K = 3 then s else false
def bareC (K : Nat) (c : Nat) : Nat := if K = 12 then c else 0
def bareN (K : Nat) (c : Nat) (n : Int) : Int := if K = 12 ∧ c = 86 then n else 0
set_option maxHeartbeats 4000000 in
theorem bare_any (k : Int) (d : ByteArray) (sf : Bool) (c : Nat) (n : Int) (w : World) (t : Nat) (ht1 : (bits .and .i64 k 255).tmod 12 = (t : Int)) (ht2 : bits .and .i64 k 255 % 12 = (t : Int)) (ht : t < 12) (hc : c < 256) :
    Calls Tryd.prog 5 #[.agg #[.int .i64 k, .string d, .bool sf, .int .u8 (c : Int), .int .i64 n]] w fun e w' =>
      e = .returned (.agg #[.int .i64 ((t + 1 : Nat) : Int), .string (bareD (t + 1) d), .bool (bareS (t + 1) sf), .int .u8 (bareC (t + 1) c : Int), .int .i64 (bareN (t + 1) c n)]) ∧ Below w.heap.size w w' := by
  go_enter Tryd.func5, Tryd.ntmps5
  go_upto_region 2 with (fail)
  clear ht1 ht2
  obtain ⟨D, hD⟩ : ∃ D, cutL d 60 = D := ⟨_, rfl⟩
  have HD := Lib.hid hD
  clear hD
  have h12 : t = 0 ∨ t = 1 ∨ t = 2 ∨ t = 3 ∨ t = 4 ∨ t = 5 ∨ t = 6 ∨ t = 7 ∨ t = 8 ∨ t = 9 ∨ t = 10 ∨ t = 11 := by omega
  clear ht
  rcases h12 with rfl | rfl | rfl | rfl | rfl | rfl | rfl | rfl | rfl | rfl | rfl | rfl
  case inr.inr.inr.inr.inr.inr.inr.inr.inr.inr.inr =>
    by_cases hv : c = 86
    · subst hv
      go_wp2_with (first
        | (go_at_call 6
           refine (cut_any d 60 60 _ rfl).mono ?_
           rintro e w' ⟨rfl, rfl⟩
           rw [HD.out]))
      refine bodyPost_ret (results_cell_row rfl _ _ (w.heap.size + 1) 23 _ (0, 0) _ rfl (heap_alloc2_new w _ _) Tryd.underlying23 rfl info_sig) rfl ⟨?_, ((Below.refl _ _).alloc (Nat.le_refl _) _).alloc (by simp) _⟩
      simp [bareD, bareS, bareC, bareN]
    · have hv1 : ((c : Int) != 86) = true := by simp; omega
      have hv2 : (c : Int) ≠ 86 := by omega
      have HV := Lib.hid hv
      clear hv
      go_wp2_with (first
        | (go_at_call 6
           refine (cut_any d 60 60 _ rfl).mono ?_
           rintro e w' ⟨rfl, rfl⟩
           rw [HD.out]))
      refine bodyPost_ret (results_cell_row rfl _ _ (w.heap.size + 1) 23 _ (0, 0) _ rfl (heap_alloc2_new w _ _) Tryd.underlying23 rfl info_sig) rfl ⟨?_, ((Below.refl _ _).alloc (Nat.le_refl _) _).alloc (by simp) _⟩
      have hv := HV.out
      simp [bareD, bareS, bareC, bareN, hv]
  all_goals
    go_wp2_with (first
      | (go_at_call 6
         refine (cut_any d 60 60 _ rfl).mono ?_
         rintro e w' ⟨rfl, rfl⟩
         rw [HD.out]))
    refine bodyPost_ret (results_cell_row rfl _ _ (w.heap.size + 1) 23 _ (0, 0) _ rfl (heap_alloc2_new w _ _) Tryd.underlying23 rfl info_sig) rfl ⟨?_, ((Below.refl _ _).alloc (Nat.le_refl _) _).alloc (by simp) _⟩
    simp [bareD, bareS, bareC, bareN, HD.out]
end Go.Proofs.YtcepiapidcofiaaDoor.Ev
