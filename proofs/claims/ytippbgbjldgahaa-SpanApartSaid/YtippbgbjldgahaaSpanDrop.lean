/-
  A set without the numbers of a span.
-/
import Derived.Test.YtippbgbjldgahaaSpanAdd
import Derived.Test.YtippbgbjldgahaaSpanBoth
namespace Go.Proofs.Ytippbgbjldgahaa.SpanCalls
open Go.RowKit SpanMath View

theorem gapsL_len (x : Sp) (S : List Sp) : (gapsL x S).length ≤ S.length + 1 := by
  have h1 := gap_len (x := x) (S := S) S.length
  rw [List.take_length] at h1
  have h2 := join_len (gapFold x S).1 ((gapFold x S).2, x.2)
  unfold gapsL
  omega

theorem drop_any (a : Option Addr) (n cap : Nat) (S : List Sp) (x1 x2 : Int) (T : List Sp) (w : World) (h : RdS w a n S) (hf : Fit a n cap) (hs : Small S) (hN : Norm S) (b1 : -400 ≤ x1) (b2 : x1 ≤ 400) (b3 : -400 ≤ x2) (b4 : x2 ≤ 400)
    (hT : IsSet T fun z => z ∈ nums S ∧ ¬ (x1 ≤ z ∧ z < x2)) :
    Calls Try.prog 17 #[.slice a n cap, .agg #[.int .i64 x1, .int .i64 x2]] w fun e w' => ∃ v, e = .returned v ∧ OwnS w' w.heap.size v T ∧ Below w.heap.size w w' := by
  have HL := Lib.hid h
  have HF := Lib.hid hf
  have HN := Lib.hid hN
  obtain ⟨S1, hS1⟩ : ∃ S1, IsSet S1 (inSp [(x1, x2)]) := exists_set _
  have hin : ∀ z, inSp [(x1, x2)] z ↔ (x1 ≤ z ∧ z < x2) := fun z => by simp [inSp]
  have hsm1 : Small S1 := small_of hS1.1 (fun z hz => by
    rw [hS1.2, hin] at hz
    omega)
  have hS2 := gaps_set (-1099511627776, 1099511627777) S1 hS1.1
  have hl2 := gapsL_len (-1099511627776, 1099511627777) S1
  have hl3 := hsm1.1
  obtain ⟨S2, hS2e⟩ : ∃ S2, gapsL (-1099511627776, 1099511627777) S1 = S2 := ⟨_, rfl⟩
  rw [hS2e] at hS2 hl2
  have HT : Hid (IsSet T fun z => z ∈ nums S ∧ z ∈ nums S2) := Lib.hid ⟨hT.1, fun z => by
    refine (hT.2 z).trans ?_
    show (z ∈ nums S ∧ ¬ (x1 ≤ z ∧ z < x2)) ↔ (z ∈ nums S ∧ z ∈ nums S2)
    have h2 : z ∈ nums S2 ↔ (-1099511627776 ≤ z ∧ z < 1099511627777) ∧ z ∉ nums S1 := hS2.2 z
    rw [h2, hS1.2, hin]
    constructor
    · rintro ⟨h1, h2⟩
      have := small_nums hs z h1
      exact ⟨h1, ⟨by omega, by omega⟩, h2⟩
    · rintro ⟨h1, _, h2⟩
      exact ⟨h1, h2⟩⟩
  have HS1 := Lib.hid hS1
  have HS2 := Lib.hid hS2
  have HSM := Lib.hid hsm1
  have HNR : Hid (Near [(x1, x2)]) := Lib.hid (near_of (by simp) (fun y hy => by simp only [List.mem_cons, List.not_mem_nil, or_false] at hy; subst hy; exact ⟨b1, b2, b3, b4⟩))
  have hn1 : n ≤ 1000 := by rw [h.1]; exact hs.1
  have hsz2 : S2.length ≤ 10000 := by omega
  clear h hf hs hT hN hS1 hin hsm1 hS2 hl2 hl3 hS2e
  go_enter Try.func17, Try.ntmps17
  go_wp2_with fail
  have hlit := rdS_lit1 (w.alloc (.cells #[.int .i64 x1, .int .i64 x2] 35)) x1 x2
  rw [World.size_alloc] at hlit
  have hbw : Below w.heap.size w ((w.alloc (.cells #[.int .i64 x1, .int .i64 x2] 35)).alloc (.cells #[.int .i64 x1, .int .i64 x2] 35)) := ((Below.refl _ w).alloc (Nat.le_refl _) _).alloc (by simp) _
  refine (of_any (some ⟨w.heap.size + 1, 0, none⟩) 1 1 [(x1, x2)] S1 _ hlit ⟨Nat.le_refl _, by simp [maxLen], fun h => by cases h⟩ HNR.out HS1.out).mono ?_; rintro e w1 ⟨v1, rfl, hown1, hb1⟩
  have hb2 := hbw.trans (hb1.mono hbw.size)
  have hs2 := hb2.size
  obtain ⟨a1, n1, c1, rfl, hf1, hr1⟩ := hown1.form
  have HR1 := Lib.hid hr1
  clear hlit hbw hown1 hb1 hr1 hf1
  go_wp2_with fail
  refine (gaps_any a1 n1 c1 S1 (-1099511627776) 1099511627777 S2 _ HR1.out HSM.out HS1.out.1 (by omega) (by omega) (by omega) (by omega) HS2.out).mono ?_; rintro e w2 ⟨v2, rfl, hown2, hb3⟩
  have hb4 := hb2.trans (hb3.mono hs2)
  have hs4 := hb4.size
  obtain ⟨a2, n2, c2, rfl, hf2, hr2⟩ := hown2.form
  have hn2 : n2 ≤ 10000 := by rw [hr2.1]; exact hsz2
  have HR2 := Lib.hid hr2
  have HF2 := Lib.hid hf2
  clear hown2 hb3 hr2 hf2
  go_wp2_with fail
  refine (both_any a n cap S a2 n2 c2 S2 T _ (HL.out.below hb4) HR2.out HF.out HF2.out (by omega) hn2 HN.out HS2.out.1 HT.out).mono ?_; rintro e w3 ⟨v3, rfl, hown3, hb5⟩
  have hb6 := hb4.trans (hb5.mono hs4)
  have hown4 := hown3.lower hs4
  clear hown3 hb5
  go_wp2_with fail
  go_ret
  exact ⟨_, rfl, hown4, hb6⟩
end Go.Proofs.Ytippbgbjldgahaa.SpanCalls
