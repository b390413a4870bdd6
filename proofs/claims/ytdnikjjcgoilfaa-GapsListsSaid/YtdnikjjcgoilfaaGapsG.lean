/-
  Gaps: the pairs of a rising list, as the document makes them.
-/
import Derived.Test.YtdnikjjcgoilfaaGapsF
namespace Go.Proofs.Ytdnikjjcgoilfaa.Gaps
open Go.ChangeShapes Go.WideShapes Go.RowKit SpanMath

theorem own_open {κ : IntKind} {τ : TypeId} {w : World} {base : Nat} {v : Value} {M : List Int} {y0 : Int} (h : Own.OwnI κ τ w base v (M ++ [y0])) :
    ∃ g cap, v = .slice (some ⟨g, 0, none⟩) (M.length + 1) cap ∧ base ≤ g ∧ w.cell? ⟨g, M.length, none⟩ = some (.int κ y0) ∧ w.frozen? ⟨g, M.length, none⟩ = false := by
  rcases h.2 with ⟨_, h0⟩ | ⟨g, cap', cur, rfl, hg, hh, _⟩
  · simp at h0
  · obtain ⟨a, n, cap, e1, _, hr⟩ := h.form
    cases e1
    obtain ⟨b, off, e, _, hc⟩ := hr.at_ (k := M.length) (by simp)
    cases e
    rw [Nat.zero_add] at hc
    exact ⟨g, cap', by rw [List.length_append]; rfl, hg, by rw [hc]; simp [List.getD], frozen_of_row _ _ _ _ _ hh⟩
theorem rdI_lit2_at (κ : IntKind) (τ : TypeId) (w : World) (a b : Int) (g : Nat) (hg : g = w.heap.size) : Own.RdI κ (w.alloc (.cells #[.int κ a, .int κ b] τ)) (some ⟨g, 0, none⟩) 2 [a, b] := by
  subst hg
  exact ⟨rfl, fun _ => ⟨_, 0, rfl, by simp, fun i hi => by
    rcases (show i = 0 ∨ i = 1 by omega) with rfl | rfl <;> simp⟩⟩
theorem flat_end (b : Int) (S : List Sp) (p u : Int) : flatB b (S ++ [(p, u)]) = (flatB b S ++ [(b + p) % 16777216]) ++ [(b + u) % 16777216] := by
  rw [flatB_snoc, List.append_assoc]; rfl
theorem m_bd {b : Int} {S : List Sp} {u : Int} {M : List Int} {m k : Nat} (hm : M.length = m) (hM : flatB b S ++ [u] = M) (h1 : S.length ≤ k) (h2 : k ≤ 1000) : (m : Int) ≤ 10000 := by
  rw [← hm, ← hM, List.length_append, flatB_len]; simp; omega
def Inv (L : List Int) (k : Nat) (S : List Sp) : Prop := k = 0 ∧ S = [] ∨ 0 < k ∧ ∃ S0 p, S = S0 ++ [(p, L.getD (k - 1) 0 + 1)]
theorem rise_before {L : List Int} (hL : Rising L) {k : Nat} (hk : k < L.length) : ∀ y ∈ L.take k, y ≤ L.getD (k - 1) 0 ∧ y < L.getD k 0 := fun y hy => by
  obtain ⟨i, hi, rfl⟩ := List.mem_iff_getElem.1 hy
  rw [List.length_take] at hi
  rw [List.getElem_take]
  have h1 := List.pairwise_iff_getElem.1 hL i k (by omega) hk (by omega)
  have h2 : k - 1 < L.length := by omega
  simp only [List.getD, List.getElem?_eq_getElem hk, List.getElem?_eq_getElem h2, Option.getD_some]
  refine ⟨?_, h1⟩
  by_cases e : i = k - 1
  · subst e; exact Int.le_refl _
  · have := List.pairwise_iff_getElem.1 hL i (k - 1) (by omega) h2 (by omega)
    omega
set_option maxRecDepth 100000 in
set_option maxHeartbeats 4000000 in
theorem rpairs_any (b : Int) (a : Option Addr) (n cap : Nat) (L : List Int) (w : World) (h : Own.RdI .i64 w a n L) (hn : n ≤ 1000) (hb : 0 ≤ b ∧ b < 16777216) (hp : ∀ z ∈ L, 0 ≤ z ∧ z ≤ 400) (hL : Rising L) :
    Calls Try.prog 15 #[.int .i64 b, .slice a n cap] w fun e w' => ∃ v S, e = .returned v ∧ IsSet S (fun z => z ∈ L) ∧ Own.OwnI .i64 3 w' w.heap.size v (flatB b S) ∧ Below w.heap.size w w' := by
  have HL := Lib.hid h
  have HLN := Lib.hid h.1
  have HP := Lib.hid hp
  have HRI := Lib.hid hL
  have hn2 : (n : Int) ≤ 1000 := by omega
  obtain ⟨b0, b1⟩ := hb
  clear h hp hL
  go_enter Try.func15, Try.ntmps15
  go_wp2_with fail
  go_loopw [5, 11] (fun s5 s11 wr => ∃ (k : Nat) (S : List Sp), k ≤ n ∧ s11 = .int .i64 (k : Int) ∧ Hid (IsSet S (fun z => z ∈ L.take k)) ∧ Hid (Own.OwnI .i64 3 wr w.heap.size s5 (flatB b S)) ∧ Hid (Inv L k S) ∧ Hid (S.length ≤ k) ∧ Hid (Below w.heap.size w wr)) (fun _ s11 _ => n - (intOf s11).toNat)
  case atStart => exact ⟨0, [], Nat.zero_le _, rfl, Lib.hid ⟨norm_nil, fun z => by simp [nums]⟩, Lib.hid (Own.ownI_empty w _ (Nat.le_refl _) rfl), Lib.hid (.inl ⟨rfl, rfl⟩), Lib.hid (by simp), Lib.hid ((Below.refl _ _).alloc (Nat.le_refl _) _)⟩
  case round =>
    obtain ⟨k, S, hk, rfl, HS, ho, HI, HSL, hb⟩ := hrel
    by_cases hlt : k < n
    · obtain ⟨bb, of, rfl, _, hc⟩ := (HL.out.below hb.out).at_ hlt
      have hil : k < L.length := by have := HLN.out; omega
      obtain ⟨x, hx⟩ : ∃ x, L.getD k 0 = x := ⟨_, rfl⟩
      have hxp := HP.out x (by rw [← hx]; simp [List.getD, hil])
      obtain ⟨x0, x1⟩ := hxp
      rw [hx] at hc
      have HBEF : Hid (∀ y ∈ L.take k, y ≤ L.getD (k - 1) 0 ∧ y < x) := Lib.hid (by have := rise_before HRI.out hil; rw [hx] at this; exact this)
      have HTK : Hid (L.take (k + 1) = L.take k ++ [x]) := Lib.hid (by rw [View.take_succ' L 0 k hil, hx])
      have HX : Hid (L.getD k 0 = x) := Lib.hid hx
      have HLT := Lib.hid hlt
      have hki : (k : Int) < (n : Int) := by omega
      have hkn : (k : Int) ≤ 1000 := by omega
      have HKN : Hid (k ≤ 1000) := Lib.hid (by omega)
      by_cases hnew : k = 0 ∨ L.getD (k - 1) 0 + 1 ≠ x
      · have HS2 : Hid (IsSet (S ++ [(x, x + 1)]) (fun z => z ∈ L.take (k + 1))) := Lib.hid (by
          rw [HTK.out]
          refine set_new HS.out fun y hy => ?_
          rcases hnew with h0 | h0
          · subst h0; simp at hy
          · have := HBEF.out y hy
            have h3 : L.getD (k - 1) 0 < x := by
              have hk0 : 0 < k := by
                rcases Nat.eq_zero_or_pos k with e | e
                · subst e; simp at hy
                · exact e
              exact (HBEF.out (L.getD (k - 1) 0) (by
                rw [List.mem_iff_getElem]
                refine ⟨k - 1, by rw [List.length_take]; omega, ?_⟩
                rw [List.getElem_take]; simp [List.getD, show k - 1 < L.length by omega])).2
            omega)
        have HI2 : Hid (Inv L (k + 1) (S ++ [(x, x + 1)])) := Lib.hid (.inr ⟨by omega, S, x, by rw [Nat.add_sub_cancel, HX.out]⟩)
        have HLEN : Hid ((flatB b S).length + 2 ≤ 1000000) := Lib.hid (by rw [flatB_len]; have := HSL.out; have := HKN.out; omega)
        have HW : Hid (w.heap.size ≤ wr.heap.size) := Lib.hid hb.out.size
        have HFE : Hid (flatB b (S ++ [(x, x + 1)]) = (flatB b S ++ [(b + x) % 16777216]) ++ [(b + x + 1) % 16777216]) := Lib.hid (by rw [flat_end, show b + (x + 1) = b + x + 1 from by omega])
        obtain ⟨av, nv, cv, rfl, hfv, hrv⟩ := ho.out.form
        clear hfv hrv hx hil hlt hk
        have hcase : k = 0 ∨ (0 < k ∧ L.getD (k - 1) 0 + 1 ≠ x) := by omega
        clear hnew
        rcases hcase with h0 | ⟨h0, h1⟩
        · have hkb : ((k : Int) == 0) = true := by rw [h0]; rfl
          clear h0
          go_wp2_with fail
          refine (SeqCalls.of_any _ _ (by omega) (by omega)).mono ?_; rintro e w2 ⟨rfl, rfl⟩
          go_wp2_with (at_builtin; refine Own.wpList_appI infoI (by decide) rfl (.tmp 28) (.tmp 33) 24 rfl Try.underlying24 w.heap.size _ _ rfl (ho.out.below ((Below.refl _ _).alloc (Nat.le_refl _) _)) _ 2 2 [_, _] rfl (rdI_lit2_at _ _ _ _ _ _ rfl) (fun h => by cases h) HLEN.out (by have := HW.out; simp; omega) ?_; intro v8 w8 hown8 hgrow8; have HB8 : Hid (Below w.heap.size w w8) := Lib.hid (Own.own_grown (hb.out.alloc HW.out _) (by have := HW.out; simp; omega) hgrow8 (ho.out.below ((Below.refl _ _).alloc (Nat.le_refl _) _))); rw [show ∀ u : Int, flatB b S ++ [u, 0] = (flatB b S ++ [u]) ++ [0] from fun u => by simp] at hown8; have HO8 := Lib.hid hown8; obtain ⟨g8, c8, rfl, hg8, hc8, hf8⟩ := own_open hown8; have HG8 := Lib.hid hg8; clear hown8 hgrow8 hg8; generalize hM : flatB b S ++ [(b + x) % 16777216] = M at *; obtain ⟨m, hm⟩ : ∃ m, M.length = m := ⟨_, rfl⟩; rw [hm] at hc8 hf8 ⊢; have HMM := Lib.hid hm; have hmi : (m : Int) ≤ 10000 := m_bd hm hM HSL.out HKN.out; have hidx : (((m + 1 : Nat) : Int) - 1).toNat = m := (by omega); clear hm hM hc)
          refine (SeqCalls.of_any _ _ (by omega) (by omega)).mono ?_; rintro e w2 ⟨rfl, rfl⟩
          go_wp2_with fail
          go_roundw
          case rel => exact ⟨k + 1, S ++ [(x, x + 1)], HLT.out, by go_num, HS2, Lib.hid (by have := own_last (y := (b + x + 1) % 16777216) HO8.out; rw [HMM.out] at this; rw [HFE.out]; exact this), HI2, Lib.hid (by have := HSL.out; simp; omega), Lib.hid (HB8.out.setCell HG8.out _)⟩
          case measure => simp [intOf]; have := HLT.out; omega
        · have hkb : ((k : Int) == 0) = false := by simp; omega
          obtain ⟨b', of', e, _, hcy⟩ := (HL.out.below hb.out).at_ (k := k - 1) (by have := HLT.out; omega)
          cases e
          obtain ⟨y, hy⟩ : ∃ y, L.getD (k - 1) 0 = y := ⟨_, rfl⟩
          have hyp := HP.out y (by rw [← hy]; have := HLT.out; have := HLN.out; simp [List.getD, show k - 1 < L.length by omega])
          obtain ⟨y0, y1⟩ := hyp
          rw [hy] at hcy h1
          have hne : (y + 1 != x) = true := by simpa using h1
          have hidx1 : ((k : Int) - 1).toNat = k - 1 := by omega
          have hin : (0 : Int) ≤ (k : Int) - 1 := by omega
          have hil1 : k - 1 < n := by have := HLT.out; omega
          clear h0 h1 hy
          go_wp2_with fail
          clear hcy
          refine (SeqCalls.of_any _ _ (by omega) (by omega)).mono ?_; rintro e w2 ⟨rfl, rfl⟩
          go_wp2_with (at_builtin; refine Own.wpList_appI infoI (by decide) rfl (.tmp 28) (.tmp 33) 24 rfl Try.underlying24 w.heap.size _ _ rfl (ho.out.below ((Below.refl _ _).alloc (Nat.le_refl _) _)) _ 2 2 [_, _] rfl (rdI_lit2_at _ _ _ _ _ _ rfl) (fun h => by cases h) HLEN.out (by have := HW.out; simp; omega) ?_; intro v8 w8 hown8 hgrow8; have HB8 : Hid (Below w.heap.size w w8) := Lib.hid (Own.own_grown (hb.out.alloc HW.out _) (by have := HW.out; simp; omega) hgrow8 (ho.out.below ((Below.refl _ _).alloc (Nat.le_refl _) _))); rw [show ∀ u : Int, flatB b S ++ [u, 0] = (flatB b S ++ [u]) ++ [0] from fun u => by simp] at hown8; have HO8 := Lib.hid hown8; obtain ⟨g8, c8, rfl, hg8, hc8, hf8⟩ := own_open hown8; have HG8 := Lib.hid hg8; clear hown8 hgrow8 hg8; generalize hM : flatB b S ++ [(b + x) % 16777216] = M at *; obtain ⟨m, hm⟩ : ∃ m, M.length = m := ⟨_, rfl⟩; rw [hm] at hc8 hf8 ⊢; have HMM := Lib.hid hm; have hmi : (m : Int) ≤ 10000 := m_bd hm hM HSL.out HKN.out; have hidx : (((m + 1 : Nat) : Int) - 1).toNat = m := (by omega); clear hm hM hc)
          refine (SeqCalls.of_any _ _ (by omega) (by omega)).mono ?_; rintro e w2 ⟨rfl, rfl⟩
          go_wp2_with fail
          go_roundw
          case rel => exact ⟨k + 1, S ++ [(x, x + 1)], HLT.out, by go_num, HS2, Lib.hid (by have := own_last (y := (b + x + 1) % 16777216) HO8.out; rw [HMM.out] at this; rw [HFE.out]; exact this), HI2, Lib.hid (by have := HSL.out; simp; omega), Lib.hid (HB8.out.setCell HG8.out _)⟩
          case measure => simp [intOf]; have := HLT.out; omega
      · have hk0 : 0 < k := by omega
        have hyx : L.getD (k - 1) 0 + 1 = x := by omega
        obtain ⟨S0, p, hS⟩ : ∃ S0 p, S = S0 ++ [(p, x)] := by
          rcases HI.out with ⟨h, _⟩ | ⟨_, S0, p, h⟩
          · omega
          · exact ⟨S0, p, by rw [h, hyx]⟩
        subst hS
        have HS2 : Hid (IsSet (S0 ++ [(p, x + 1)]) (fun z => z ∈ L.take (k + 1))) := Lib.hid (by rw [HTK.out]; exact set_more HS.out)
        have HI2 : Hid (Inv L (k + 1) (S0 ++ [(p, x + 1)])) := Lib.hid (.inr ⟨by omega, S0, p, by rw [Nat.add_sub_cancel, HX.out]⟩)
        have HFE : Hid (flatB b (S0 ++ [(p, x + 1)]) = (flatB b S0 ++ [(b + p) % 16777216]) ++ [(b + x + 1) % 16777216]) := Lib.hid (by rw [flat_end, show b + (x + 1) = b + x + 1 from by omega])
        have hown := ho.out
        rw [flat_end] at hown
        have HO8 := Lib.hid hown
        obtain ⟨g8, c8, rfl, hg8, hc8, hf8⟩ := own_open hown
        have HG8 := Lib.hid hg8
        have HSL0 : Hid (S0.length ≤ k) := Lib.hid (by have := HSL.out; rw [List.length_append] at this; omega)
        clear hown hg8 ho
        generalize hM : flatB b S0 ++ [(b + p) % 16777216] = M at *
        obtain ⟨m, hm⟩ : ∃ m, M.length = m := ⟨_, rfl⟩
        rw [hm] at hc8 hf8 ⊢
        have HMM := Lib.hid hm
        have hmi : (m : Int) ≤ 10000 := m_bd hm hM HSL0.out HKN.out
        have hidx : (((m + 1 : Nat) : Int) - 1).toNat = m := by omega
        have hkb : ((k : Int) == 0) = false := by simp; omega
        obtain ⟨b', of', e, _, hcy⟩ := (HL.out.below hb.out).at_ (k := k - 1) (by have := HLT.out; omega)
        cases e
        obtain ⟨y, hy⟩ : ∃ y, L.getD (k - 1) 0 = y := ⟨_, rfl⟩
        have hyp := HP.out y (by rw [← hy]; have := HLT.out; have := HLN.out; simp [List.getD, show k - 1 < L.length by omega])
        obtain ⟨y0, y1⟩ := hyp
        rw [hy] at hcy hyx
        have hne : (y + 1 != x) = false := by rw [hyx]; simp
        have hidx1 : ((k : Int) - 1).toNat = k - 1 := by omega
        have hin : (0 : Int) ≤ (k : Int) - 1 := by omega
        have hil1 : k - 1 < n := by have := HLT.out; omega
        clear hk0 hyx hy hx hil hlt hk hM hm hnew
        go_wp2_with fail
        refine (SeqCalls.of_any _ _ (by omega) (by omega)).mono ?_; rintro e w2 ⟨rfl, rfl⟩
        clear hcy hc
        go_wp2_with fail
        go_roundw
        case rel => exact ⟨k + 1, S0 ++ [(p, x + 1)], HLT.out, by go_num, HS2, Lib.hid (by have := own_last (y := (b + x + 1) % 16777216) HO8.out; rw [HMM.out] at this; rw [HFE.out]; exact this), HI2, Lib.hid (by have := HSL0.out; simp; omega), Lib.hid (hb.out.setCell HG8.out _)⟩
        case measure => simp [intOf]; have := HLT.out; omega
    · obtain rfl : k = n := by omega
      have HE : Hid (L.take k = L) := Lib.hid (List.take_of_length_le (by have := HLN.out; omega))
      clear hk hlt
      go_wp2_with fail
      go_ret
      exact ⟨_, S, rfl, by have := HS.out; rw [HE.out] at this; exact this, ho.out, hb.out⟩
end Go.Proofs.Ytdnikjjcgoilfaa.Gaps
