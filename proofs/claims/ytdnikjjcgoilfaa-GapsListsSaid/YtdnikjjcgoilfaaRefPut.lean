/-
  The document's own words on lists of numbers: a rising list with a number more.
-/
import Derived.Test.YtdnikjjcgoilfaaRefHas
namespace Go.Proofs.Ytdnikjjcgoilfaa.Ref
open Go.RowKit SpanMath View

theorem put_round {x : Int} {L O : List Int} {dn : Bool} {k : Nat} {y : Int} (hk : k < L.length) (h : putFold x (L.take k) = (O, dn)) (hy : L.getD k 0 = y) :
    putFold x (L.take (k + 1)) = (if dn = false ∧ x < y then (O ++ [x, y], true) else (O ++ [y], dn)) := by
  rw [putFold_take x L k hk, h, hy]
  rfl
theorem put_size {x : Int} {L O : List Int} {dn : Bool} {k : Nat} (h : putFold x (L.take k) = (O, dn)) : O.length ≤ k + 1 := by
  have := putFold_le x (L.take k)
  rw [h] at this
  have h2 : (L.take k).length ≤ k := List.length_take_le _ _
  exact Nat.le_trans this (by omega)

set_option maxHeartbeats 400000 in
theorem put_any (a : Option Addr) (n cap : Nat) (L : List Int) (x : Int) (w : World) (h : OwnI w 0 (.slice a n cap) L) (hn : n ≤ 100000) :
    Calls Try.prog 29 #[.slice a n cap, .int .i64 x] w fun e w' => ∃ v, e = .returned v ∧ OwnI w' 0 v (putL L x) ∧ (v = .slice a n cap ∨ OwnI w' w.heap.size v (putL L x)) ∧ Below w.heap.size w w' := by
  obtain ⟨a0, n0, cap0, e0, _, hrd⟩ := h.form
  cases e0
  have HL := Lib.hid hrd
  have HO := Lib.hid h
  clear h hrd
  by_cases hx : x ∈ L
  · have HP : Hid (putL L x = L) := Lib.hid (by unfold putL; rw [if_pos hx])
    have HX := Lib.hid hx
    clear hx
    go_enter Try.func29, Try.ntmps29
    go_wp2_with fail
    refine (rhas_any a n cap L x _ HL.out (by omega)).mono ?_; rintro e w' ⟨rfl, rfl⟩
    rw [decide_eq_true HX.out]
    go_wp2_with fail
    go_ret
    exact ⟨_, rfl, by rw [HP.out]; exact HO.out, .inl rfl, Below.refl _ _⟩
  · have HX := Lib.hid hx
    clear hx
    go_enter Try.func29, Try.ntmps29
    go_wp2_with fail
    refine (rhas_any a n cap L x _ HL.out (by omega)).mono ?_; rintro e w' ⟨rfl, rfl⟩
    rw [decide_eq_false HX.out]
    go_wp2_with fail
    go_loopw [5, 6, 16] (fun v d i wr => ∃ (k : Nat) (O : List Int) (dn : Bool), k ≤ n ∧ i = .int .i64 k ∧ d = .bool dn ∧ OwnI wr w.heap.size v O ∧ Hid (putFold x (L.take k) = (O, dn)) ∧ Below w.heap.size w wr)
      (fun _ _ i _ => n - (intOf i).toNat)
    case atStart => exact ⟨0, [], false, Nat.zero_le _, rfl, rfl, ownI_empty w _ (Nat.le_refl _) rfl, Lib.hid rfl, (Below.refl _ w).alloc (Nat.le_refl _) _⟩
    case round =>
      obtain ⟨k, O, dn, hk, rfl, rfl, hown, hfold, hb⟩ := hrel
      by_cases hlt : k < n
      · obtain ⟨b, off, rfl, hbl, hc⟩ := (HL.out.below hb).at_ hlt
        have hl : k < L.length := by have := HL.out.1; omega
        have hO : O.length ≤ k + 1 := put_size hfold.out
        obtain ⟨y, hy⟩ : ∃ y, L.getD k 0 = y := ⟨_, rfl⟩
        rw [hy] at hc
        have HR := Lib.hid (put_round hl hfold.out hy)
        clear hy hfold
        have hsz := hb.size
        cases dn with
        | true =>
          go_wp2_with (at_builtin; refine wpList_appI rfl (.tmp 31) (.tmp 33) 24 rfl Try.underlying24 w.heap.size _ O rfl (hown.below ((Below.refl _ _).alloc (Nat.le_refl _) _)) _ 1 1 [y] rfl (rdI_lit1 wr y) (fun h => by cases h) (by omega) (by simp; omega) ?_)
          intro v' w1 hown' hgrow
          have hb' : Below w.heap.size w w1 := own_grown (hb.alloc hsz _) (by simp; omega) hgrow (own_below hown ((Below.refl _ _).alloc (Nat.le_refl _) _))
          clear hgrow hown hb hc
          go_wp2_with fail
          go_roundw
          case rel => exact ⟨k + 1, _, true, by omega, by go_num, rfl, hown', Lib.hid (HR.out.trans (by simp)), hb'⟩
          case measure => simp [intOf]; omega
        | false =>
          by_cases hxy : x < y
          · go_wp2_with (at_builtin; refine wpList_appI rfl (.tmp 27) (.tmp 29) 24 rfl Try.underlying24 w.heap.size _ O rfl (hown.below ((Below.refl _ _).alloc (Nat.le_refl _) _)) _ 1 1 [x] rfl (rdI_lit1 wr x) (fun h => by cases h) (by omega) (by simp; omega) ?_)
            intro v' w1 hown' hgrow
            have hb' : Below w.heap.size w w1 := own_grown (hb.alloc hsz _) (by simp; omega) hgrow (own_below hown ((Below.refl _ _).alloc (Nat.le_refl _) _))
            clear hgrow hown hb hc
            have hsz1 := hb'.size
            go_wp2_with (at_builtin; refine wpList_appI rfl (.tmp 31) (.tmp 33) 24 rfl Try.underlying24 w.heap.size _ (O ++ [x]) rfl (hown'.below ((Below.refl _ _).alloc (Nat.le_refl _) _)) _ 1 1 [y] rfl (rdI_lit1 w1 y) (fun h => by cases h) (by simp; omega) (by simp; omega) ?_)
            intro v2 w2 hown2 hgrow2
            have hb2 : Below w.heap.size w w2 := own_grown (hb'.alloc hsz1 _) (by simp; omega) hgrow2 (own_below hown' ((Below.refl _ _).alloc (Nat.le_refl _) _))
            clear hgrow2 hown' hb'
            go_wp2_with fail
            go_roundw
            case rel => exact ⟨k + 1, _, true, by omega, by go_num, rfl, hown2, Lib.hid (HR.out.trans (by simp [hxy])), hb2⟩
            case measure => simp [intOf]; omega
          · go_wp2_with (at_builtin; refine wpList_appI rfl (.tmp 31) (.tmp 33) 24 rfl Try.underlying24 w.heap.size _ O rfl (hown.below ((Below.refl _ _).alloc (Nat.le_refl _) _)) _ 1 1 [y] rfl (rdI_lit1 wr y) (fun h => by cases h) (by omega) (by simp; omega) ?_)
            intro v' w1 hown' hgrow
            have hb' : Below w.heap.size w w1 := own_grown (hb.alloc hsz _) (by simp; omega) hgrow (own_below hown ((Below.refl _ _).alloc (Nat.le_refl _) _))
            clear hgrow hown hb hc
            go_wp2_with fail
            go_roundw
            case rel => exact ⟨k + 1, _, false, by omega, by go_num, rfl, hown', Lib.hid (HR.out.trans (by simp [hxy])), hb'⟩
            case measure => simp [intOf]; omega
      · have hO : O.length ≤ k + 1 := put_size hfold.out
        have hP : putL L x = if dn = true then O else O ++ [x] := by
          have h1 := hfold.out
          rw [List.take_of_length_le (by have := HL.out.1; omega)] at h1
          unfold putL
          rw [if_neg HX.out, h1]
        have HP := Lib.hid hP
        clear hP hfold
        have hsz := hb.size
        cases dn with
        | true =>
          go_wp2_with fail
          go_ret
          exact ⟨_, rfl, by rw [HP.out]; exact hown.lower (Nat.zero_le _), .inr (by rw [HP.out]; exact hown), hb⟩
        | false =>
          go_wp2_with (at_builtin; refine wpList_appI rfl (.tmp 38) (.tmp 40) 24 rfl Try.underlying24 w.heap.size _ O rfl (hown.below ((Below.refl _ _).alloc (Nat.le_refl _) _)) _ 1 1 [x] rfl (rdI_lit1 wr x) (fun h => by cases h) (by omega) (by simp; omega) ?_)
          intro v' w1 hown' hgrow
          have hb' : Below w.heap.size w w1 := own_grown (hb.alloc hsz _) (by simp; omega) hgrow (own_below hown ((Below.refl _ _).alloc (Nat.le_refl _) _))
          clear hgrow hown hb
          go_wp2_with fail
          go_ret
          exact ⟨_, rfl, by rw [HP.out]; exact hown'.lower (Nat.zero_le _), .inr (by rw [HP.out]; exact hown'), hb'⟩
end Go.Proofs.Ytdnikjjcgoilfaa.Ref
