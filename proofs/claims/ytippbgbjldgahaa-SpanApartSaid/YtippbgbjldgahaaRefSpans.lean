/-
  The document's own words on lists of numbers: the ends of the spans of a rising list.
-/
import Derived.Test.YtippbgbjldgahaaRefPut
namespace Go.Proofs.Ytippbgbjldgahaa.Ref
open Go.RowKit SpanMath View

theorem sp_round {L O : List Int} {p : Option Int} {k : Nat} {y : Int} (hk : k < L.length) (h : spFold (L.take k) = (O, p)) (hy : L.getD k 0 = y) :
    spFold (L.take (k + 1)) = (if p = some (y - 1) then O.dropLast ++ [y + 1] else O ++ [y, y + 1], some y) := by
  rw [spFold_take L k hk, h, hy]
  rfl
theorem sp_size {L O : List Int} {p : Option Int} {k : Nat} (h : spFold (L.take k) = (O, p)) : O.length ≤ 2 * k := by
  have := spFold_len (L.take k)
  rw [h] at this
  have h2 : (L.take k).length ≤ k := List.length_take_le _ _
  exact Nat.le_trans this (by omega)
theorem sp_prev {L O : List Int} {p : Option Int} {k : Nat} (hk : k < L.length) (h : spFold (L.take (k + 1)) = (O, p)) : p = some (L.getD k 0) ∧ ∃ O' z, O = O' ++ [z] := by
  have h1 := spFold_snd L k hk
  have h2 := sp_round hk (Prod.eta (spFold (L.take k))).symm rfl
  rw [h] at h1 h2
  refine ⟨h1, ?_⟩
  injection h2 with h3 _
  subst h3
  split
  · exact ⟨_, _, rfl⟩
  · exact ⟨(spFold (L.take k)).1 ++ [L.getD k 0], L.getD k 0 + 1, by simp⟩

theorem own_last {w : World} {base : Nat} {v : Value} {O : List Int} {z : Int} (h : OwnI w base v (O ++ [z])) :
    ∃ g n cap, v = .slice (some ⟨g, 0, none⟩) n cap ∧ (n : Int) - 1 = (O.length : Int) ∧ n ≤ cap ∧ base ≤ g ∧ g < w.heap.size ∧ w.cell? ⟨g, O.length, none⟩ = some (.int .i64 z) ∧ w.frozen? ⟨g, O.length, none⟩ = false ∧
      ∀ u, OwnI (w.setCell ⟨g, O.length, none⟩ (.int .i64 u)) base (.slice (some ⟨g, 0, none⟩) n cap) (O ++ [u]) := by
  have hl : (O ++ [z]).length = O.length + 1 := by simp
  obtain ⟨a, cap, rfl, hf, hc⟩ := own_form h
  obtain ⟨g, rfl, hg1, hg2, hcell⟩ := hc (by omega)
  refine ⟨g, _, cap, rfl, by rw [hl]; omega, hf.1, hg1, hg2, hcell _ _ (by simp [encI]), World.ownsRow.frozenAt h _, fun u => ?_⟩
  have h1 := (World.ownsRow.stored h O.length (.int .i64 u)).1
  have e : (encI (O ++ [z])).set O.length (.int .i64 u) = encI (O ++ [u]) := by simp [encI]
  rw [e] at h1
  have hl2 : (O ++ [u]).length = (O ++ [z]).length := by simp
  unfold OwnI
  rw [hl2]
  exact h1

set_option maxHeartbeats 1000000 in
theorem spans_any (a : Option Addr) (n cap : Nat) (L : List Int) (w : World) (h : RdI w a n L) (hs : ∀ z ∈ L, -400 ≤ z ∧ z ≤ 400) (hn : n ≤ 100000) :
    Calls Try.prog 28 #[.slice a n cap] w fun e w' => ∃ a' n' cap', e = .returned (.slice a' n' cap') ∧ Fit a' n' cap' ∧ RdI w' a' n' (spFold L).1 ∧ Below w.heap.size w w' := by
  have HL := Lib.hid h
  have HS := Lib.hid hs
  clear h hs
  go_enter Try.func28, Try.ntmps28
  go_wp2_with fail
  go_loopw [3, 9] (fun v i wr => ∃ (k : Nat) (O : List Int) (p : Option Int), k ≤ n ∧ i = .int .i64 k ∧ OwnI wr w.heap.size v O ∧ Hid (spFold (L.take k) = (O, p)) ∧ Below w.heap.size w wr)
    (fun _ i _ => n - (intOf i).toNat)
  case atStart => exact ⟨0, [], none, Nat.zero_le _, rfl, ownI_empty w _ (Nat.le_refl _) rfl, Lib.hid rfl, (Below.refl _ w).alloc (Nat.le_refl _) _⟩
  case round =>
    obtain ⟨k, O, p, hk, rfl, hown, hfold, hb⟩ := hrel
    by_cases hlt : k < n
    · obtain ⟨b, off, ea, hbl, hc⟩ := (HL.out.below hb).at_ hlt
      have hl : k < L.length := by have := HL.out.1; omega
      have hO : O.length ≤ 2 * k := sp_size hfold.out
      obtain ⟨y, hy⟩ : ∃ y, L.getD k 0 = y := ⟨_, rfl⟩
      have hyb := HS.out y (by rw [← hy]; exact getD_mem hl)
      obtain ⟨hy1, hy2⟩ := hyb
      rw [hy] at hc
      have HR := Lib.hid (sp_round hl hfold.out hy)
      clear hy
      have hsz := hb.size
      by_cases hk0 : k = 0
      · have hO0 : O = [] := List.eq_nil_of_length_eq_zero (by omega)
        have hp : p = none := by have := hfold.out; subst hk0; simp [spFold] at this; exact this.2.symm
        have hkz : ((k : Int) == 0) = true := by simp; omega
        have HK := Lib.hid hk0
        clear hk0
        subst hO0 hp
        subst ea
        clear hfold
        go_wp2_with (at_builtin; refine wpList_appI rfl (.tmp 26) (.tmp 29) 24 rfl Try.underlying24 w.heap.size _ [] rfl (hown.below ((Below.refl _ _).alloc (Nat.le_refl _) _)) _ 2 2 [y, y] rfl (rdI_lit2 wr y y) (fun h => by cases h) (by simp) (by simp; omega) ?_)
        intro v' w1 hown' hgrow
        have hb' : Below w.heap.size w w1 := own_grown (hb.alloc hsz _) (by simp; omega) hgrow (own_below hown ((Below.refl _ _).alloc (Nat.le_refl _) _))
        clear hgrow hown hb hc
        obtain ⟨g, n', cap', rfl, hn1, hn2, hg1, hg2, hc2, hf2, hst⟩ := own_last (O := [y]) hown'
        have HST := Lib.hid hst
        clear hst hown'
        simp only [List.length_cons, List.length_nil, Nat.zero_add] at hn1 hc2 hf2 HST
        have hn3 : (n' : Int) - 1 = 1 := hn1
        clear hn1
        have hn4 : (1 : Int) < (n' : Int) := by omega
        go_wp2_with fail
        go_roundw
        case rel => exact ⟨k + 1, [y] ++ [y + 1], some y, by omega, by go_num, HST.out _, Lib.hid (HR.out.trans (by simp)), hb'.setCell (by exact hg1) _⟩
        case measure => simp [intOf]; omega
      · obtain ⟨j, hj⟩ : ∃ j, k = j + 1 := ⟨k - 1, by omega⟩
        obtain ⟨b', off', e2, _, hc'⟩ := (HL.out.below hb).at_ (k := j) (by omega)
        subst ea
        cases e2
        have hjl : j < L.length := by omega
        obtain ⟨hp, O', z, hOz⟩ := sp_prev (O := O) (p := p) hjl (by rw [← hj]; exact hfold.out)
        subst hOz
        obtain ⟨q, hq⟩ : ∃ q, L.getD j 0 = q := ⟨_, rfl⟩
        have hqb := HS.out q (by rw [← hq]; exact getD_mem hjl)
        obtain ⟨hq1, hq2⟩ := hqb
        rw [hq] at hc' hp
        subst hp
        clear hq hfold
        have hj1 : (k : Int) - 1 = (j : Int) := by omega
        have hj2 : (j : Int) < (n : Int) := by omega
        have hkz : ((k : Int) == 0) = false := by simp; omega
        have HJ := Lib.hid hj
        clear hj
        by_cases hqy : q + 1 = y
        · subst hqy
          obtain ⟨g, n', cap', rfl, hn1, hn2, hg1, hg2, hc2, hf2, hst⟩ := own_last hown
          have HST := Lib.hid hst
          clear hst hown
          have hO' : (O'.length : Int) < (n' : Int) := by omega
          obtain ⟨m, hm⟩ : ∃ m, O'.length = m := ⟨_, rfl⟩
          have hm2 : m ≤ 1000000 := by simp at hO; omega
          rw [hm] at hn1 hc2 hf2 HST hO'
          clear hm
          go_wp2_with fail
          go_roundw
          case rel => exact ⟨k + 1, O' ++ [q + 1 + 1], some (q + 1), by omega, by go_num, HST.out _, Lib.hid (HR.out.trans (by simp)), hb.setCell (by exact hg1) _⟩
          case measure => simp [intOf]; omega
        · have hne : (q + 1 == y) = false := by simpa using hqy
          have hne2 : (q + 1 != y) = true := by simpa using hqy
          go_wp2_with (at_builtin; refine wpList_appI rfl (.tmp 26) (.tmp 29) 24 rfl Try.underlying24 w.heap.size _ (O' ++ [z]) rfl (hown.below ((Below.refl _ _).alloc (Nat.le_refl _) _)) _ 2 2 [y, y] rfl (rdI_lit2 wr y y) (fun h => by cases h) (by omega) (by simp; omega) ?_)
          intro v' w1 hown' hgrow
          have hb' : Below w.heap.size w w1 := own_grown (hb.alloc hsz _) (by simp; omega) hgrow (own_below hown ((Below.refl _ _).alloc (Nat.le_refl _) _))
          clear hgrow hown hb hc
          have hown2 : OwnI w1 w.heap.size v' ((O' ++ [z] ++ [y]) ++ [y]) := by simpa using hown'
          clear hown'
          obtain ⟨g, n', cap', rfl, hn1, hn2, hg1, hg2, hc2, hf2, hst⟩ := own_last hown2
          have HST := Lib.hid hst
          clear hst hown2
          obtain ⟨m, hm⟩ : ∃ m, (O' ++ [z] ++ [y]).length = m := ⟨_, rfl⟩
          have hm2 : m ≤ 1000000 := by simp at hO hm; omega
          rw [hm] at hn1 hc2 hf2 HST
          clear hm
          have hO' : (m : Int) < (n' : Int) := by omega
          go_wp2_with fail
          go_roundw
          case rel => exact ⟨k + 1, O' ++ [z] ++ [y] ++ [y + 1], some y, by omega, by go_num, HST.out _, Lib.hid (HR.out.trans (by rw [if_neg (by intro h; injection h with h; omega)]; simp)), hb'.setCell (by exact hg1) _⟩
          case measure => simp [intOf]; omega
    · have hP : (spFold L).1 = O := by
        have h1 := hfold.out
        rw [List.take_of_length_le (by have := HL.out.1; omega)] at h1
        rw [h1]
      have HP := Lib.hid hP
      clear hP hfold
      go_wp2_with fail
      go_ret
      obtain ⟨a', n', cap', rfl, hfit, hrd⟩ := hown.form
      exact ⟨a', n', cap', rfl, hfit, by rw [HP.out]; exact hrd, hb⟩
end Go.Proofs.Ytippbgbjldgahaa.Ref
