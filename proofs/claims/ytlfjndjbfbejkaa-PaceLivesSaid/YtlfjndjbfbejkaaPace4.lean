/-
  The pace: the document's own timers, as two lists of five numbers.
-/
import Derived.Test.YtlfjndjbfbejkaaPace2
import Derived.Lib.SmallJoins
import Derived.Laws.CopyOwn
import Derived.Laws.Tables
import Derived.Laws.Rows
import Derived.Laws.ResultCell
namespace Go.Proofs.Ytlfjndjbfbejkaa.Pace
open Go.RowKit View Bank

def encZ (L : List Nat) : List Int := L.map fun (n : Nat) => (n : Int)
theorem encZ_len (L : List Nat) : (encZ L).length = L.length := by simp [encZ]
theorem encZ_set (L : List Nat) (i v : Nat) : encZ (L.set i v) = (encZ L).set i (v : Int) := by simp [encZ, List.map_set]
theorem encZ_get (L : List Nat) (i : Nat) : (encZ L).getD i 0 = ((L.getD i 0 : Nat) : Int) := by
  by_cases h : i < L.length
  · simp [encZ, List.getD, h]
  · simp [encZ, List.getD, h]
/-- five numbers in memory, in none of some blocks -/
def Five (w : World) (N : Nat → Prop) (v : Value) (L : List Nat) : Prop := ∃ g o c, v = .slice (some ⟨g, o, none⟩) 5 c ∧ ¬ N g ∧ RdI w (some ⟨g, o, none⟩) 5 (encZ L)
section
variable {w w' : World} {N N' : Nat → Prop} {v : Value} {L : List Nat}
theorem Five.below (h : Five w N v L) (hb : Below w.heap.size w w') : Five w' N v L := by
  obtain ⟨g, o, c, h1, h2, h3⟩ := h; exact ⟨g, o, c, h1, h2, h3.below hb⟩
theorem Five.only {B : Nat} (h : Five w N v L) (ho : Only w w' B) (hB : N B) : Five w' N v L := by
  obtain ⟨g, o, c, h1, h2, h3⟩ := h; exact ⟨g, o, c, h1, h2, rd_only h3 ho (fun e => h2 (e ▸ hB))⟩
theorem Five.less (h : Five w N v L) (hN : ∀ b, N' b → N b) : Five w N' v L := by
  obtain ⟨g, o, c, h1, h2, h3⟩ := h; exact ⟨g, o, c, h1, fun hn => h2 (hN g hn), h3⟩
theorem Five.grow (h : Five w N v L) (hN : ∀ b, N' b → N b ∨ w.heap.size ≤ b) : Five w N' v L := by
  obtain ⟨g, o, c, h1, h2, h3⟩ := h
  refine ⟨g, o, c, h1, fun hn => ?_, h3⟩
  obtain ⟨b, off, e, hlt, _⟩ := h3.at_ (k := 0) (by decide)
  cases e
  rcases hN g hn with h | h
  · exact h2 h
  · omega
theorem Five.len (h : Five w N v L) : L.length = 5 := by
  obtain ⟨g, o, c, _, _, h3⟩ := h; rw [← encZ_len, ← h3.1]
theorem Five.own {base : Nat} (h : OwnI w base v (encZ L)) (hl : L.length = 5) (hB : ∀ b, N b → b < base) : Five w N v L := by
  obtain ⟨a, cap, rfl, _, h3⟩ := own_form h
  rw [encZ_len, hl] at h3 ⊢
  obtain ⟨g, rfl, hg, hlt, hc⟩ := h3 (by decide)
  refine ⟨g, 0, cap, rfl, fun hn => by have := hB g hn; omega, by rw [encZ_len, hl], fun _ => ⟨g, 0, rfl, hlt, fun i hi => ?_⟩⟩
  rw [Nat.zero_add]
  refine hc i _ ?_
  have : i < (encZ L).length := by rw [encZ_len, hl]; exact hi
  simp [View.encI, List.getD, this]
theorem Five.get (h : Five w N v L) {i : Nat} (hi : i < 5) : ∃ g o c, v = .slice (some ⟨g, o, none⟩) 5 c ∧ w.cell? ⟨g, o + i, none⟩ = some (.int .i64 ((L.getD i 0 : Nat) : Int)) := by
  obtain ⟨g, o, c, h1, _, h3⟩ := h
  obtain ⟨b, off, e, _, hc⟩ := h3.at_ hi
  cases e
  rw [encZ_get] at hc
  exact ⟨g, o, c, h1, hc⟩
theorem only_setRow (w : World) (g : Nat) (cs : Array Value) : Only w (w.setRow g cs) g :=
  have h := Below.refl w.heap.size w
  ⟨rfl, rfl, rfl, by have := (below_setRow (g := w.heap.size) h (Nat.le_refl _) cs).size; simp [World.setRow], fun k _ hk => setRow_other w g k cs hk⟩
theorem Five.setRow (h : Five w N v L) {g : Nat} (hg : N g) (cs : Array Value) : Five (w.setRow g cs) N v L := h.only (only_setRow w g cs) hg
end
theorem own_store {κ : IntKind} {τ : TypeId} {w : World} {base g n cap i : Nat} {M : List Int} {y : Int} (h : Own.OwnI κ τ w base (.slice (some ⟨g, 0, none⟩) n cap) M) :
    Own.OwnI κ τ (w.setCell ⟨g, i, none⟩ (.int κ y)) base (.slice (some ⟨g, 0, none⟩) n cap) (M.set i y) := by
  refine ⟨by simp [Own.encI], .inr ?_⟩
  rcases h.2 with ⟨hv, _⟩ | ⟨g', cap', cur, hv, hg, hh, h1, h2, h3, h4⟩
  · cases hv
  · cases hv
    refine ⟨g, cap, cur.setIfInBounds i (.int κ y), by simp, hg, Go.Joins.block_setCell hh _, by simpa using h1, h2, by simpa using h3, ?_⟩
    rw [Array.toList_setIfInBounds, List.length_set, List.take_set]
    rw [h4]
    simp [Own.encI, List.map_set]
theorem own_block {κ : IntKind} {τ : TypeId} {w : World} {base : Nat} {v : Value} {M : List Int} (h : Own.OwnI κ τ w base v M) (h0 : 0 < M.length) :
    ∃ g cap, v = .slice (some ⟨g, 0, none⟩) M.length cap ∧ base ≤ g ∧ ∀ i, w.frozen? ⟨g, i, none⟩ = false ∧ (i < M.length → w.cell? ⟨g, i, none⟩ = some (.int κ (M.getD i 0))) := by
  obtain ⟨a, n, cap, e1, _, hr⟩ := h.form
  rcases h.2 with ⟨_, h1⟩ | ⟨g, cap', cur, rfl, hg, hh, _⟩
  · omega
  · refine ⟨g, cap', rfl, hg, fun i => ⟨frozen_of_row _ _ _ _ _ hh, fun hi => ?_⟩⟩
    cases e1
    obtain ⟨b, off, e, _, hc⟩ := hr.at_ hi
    cases e
    rw [Nat.zero_add] at hc
    exact hc
theorem ref_info : (Try.prog.info? 34).map (·.size) = some 2 := by kernel_rfl
theorem own_empty_at {κ : IntKind} {τ : TypeId} {w : World} {base g : Nat} (hb : base ≤ w.heap.size) (hg : g = w.heap.size) : Own.OwnI κ τ (w.alloc (.cells #[] τ)) base (.slice (some ⟨g, 0, none⟩) 0 0) [] := by subst hg; exact Own.ownI_empty w #[] hb rfl
theorem setRow_other' (w : World) (g k : Nat) (cs : Array Value) (h : k ≠ g) : (w.setRow g cs).heap[k]? = w.heap[k]? := setRow_other w g k cs h
theorem infoInt : Own.Info .i64 3 8 := by unfold Own.Info; kernel_rfl
def setL (K L : List Nat) (M N : List Int) : List Nat := runL K (haltL L N) M
theorem haltL_len (L : List Nat) (N : List Int) : (haltL L N).length = L.length := by
  unfold haltL; induction N generalizing L with
  | nil => rfl
  | cons x N ih => rw [List.foldl_cons, ih]; simp
theorem runL_len (K L : List Nat) (N : List Int) : (runL K L N).length = L.length := by
  unfold runL; induction N generalizing L with
  | nil => rfl
  | cons x N ih => rw [List.foldl_cons, ih]; simp
theorem own_setRow {κ : IntKind} {τ : TypeId} {w : World} {B : Nat} {v : Value} {L : List Int} {g : Nat} {cs : Array Value} (h : Own.OwnI κ τ w B v L) (hp : g < B) : Own.OwnI κ τ (w.setRow g cs) B v L := by
  refine ⟨h.1, ?_⟩
  rcases h.2 with h0 | ⟨k, cap, cur, rfl, hk, hh, rest⟩
  · exact .inl h0
  · exact .inr ⟨k, cap, cur, rfl, hk, (setRow_other w g k cs (by omega)).trans hh, rest⟩
set_option maxRecDepth 100000 in
set_option maxHeartbeats 4000000 in
theorem rset_any (X : Nat → Prop) (K L : List Nat) (vT vL : Value) (aM : Option Addr) (nM cM : Nat) (M : List Int) (aN : Option Addr) (nN cN : Nat) (N : List Int) (w : World) (hB : ∀ b, X b → b < w.heap.size)
    (hT : Five w X vT K) (hL : Five w X vL L) (hM : RdI w aM nM M) (hN : RdI w aN nN N) (hMb : ∀ z ∈ M, 0 ≤ z ∧ z < 5) (hNb : ∀ z ∈ N, 0 ≤ z ∧ z < 5) (hm5 : nM ≤ 5) (hn5 : nN ≤ 5) :
    Calls Try.prog 41 #[.agg #[vT, vL], .slice aM nM cM, .slice aN nN cN] w fun e w' => ∃ v, e = .returned (.agg #[vT, v]) ∧ Five w' X v (setL K L M N) ∧ Below w.heap.size w w' := by
  have hKl := hT.len
  have hLl := hL.len
  obtain ⟨gL, oL, cL, rfl, _, hrL⟩ := hL
  obtain ⟨q, hq⟩ : ∃ q, q = 5 := ⟨_, rfl⟩
  rw [← hq] at hrL ⊢
  have HQ5 := Lib.hid hq
  clear hq
  have HLr := Lib.hid hrL
  have HTf := Lib.hid hT
  obtain ⟨gT, oT, cT, rfl, _, hrT⟩ := hT
  have HTr := Lib.hid hrT
  have HM := Lib.hid hM
  have HN := Lib.hid hN
  have HMb := Lib.hid hMb
  have HNb := Lib.hid hNb
  have HML := Lib.hid hM.1
  have HNL := Lib.hid hN.1
  have HKl := Lib.hid hKl
  have HLl := Lib.hid hLl
  have HB := Lib.hid hB
  clear hM hN hMb hNb hrL hrT hKl hLl hB
  go_enter Try.func41, Try.ntmps41
  have hal2 : Below w.heap.size w ((w.alloc (.cells #[.slice (some ⟨gT, oT, none⟩) 5 cT, .slice (some ⟨gL, oL, none⟩) q cL] 34)).alloc (.cells #[.slice none 0 0, .slice none 0 0] 34)) := ((Below.refl _ w).alloc (Nat.le_refl _) _).alloc (by simp) _
  have hz2 : ((w.alloc (.cells #[.slice (some ⟨gT, oT, none⟩) 5 cT, .slice (some ⟨gL, oL, none⟩) q cL] 34)).alloc (.cells #[.slice none 0 0, .slice none 0 0] 34)).heap[w.heap.size + 1]? = some (.cells #[.slice none 0 0, .slice none 0 0] 34 (0, 0)) := heap_alloc2_new w _ _
  have hb2 : ((w.alloc (.cells #[.slice (some ⟨gT, oT, none⟩) 5 cT, .slice (some ⟨gL, oL, none⟩) q cL] 34)).alloc (.cells #[.slice none 0 0, .slice none 0 0] 34)).heap[w.heap.size]? = some (.cells #[.slice (some ⟨gT, oT, none⟩) 5 cT, .slice (some ⟨gL, oL, none⟩) q cL] 34 (0, 0)) := heap_alloc2_old w _ _
  have hs2 : ((w.alloc (.cells #[.slice (some ⟨gT, oT, none⟩) 5 cT, .slice (some ⟨gL, oL, none⟩) q cL] 34)).alloc (.cells #[.slice none 0 0, .slice none 0 0] 34)).heap.size = w.heap.size + 2 := by simp
  have hownE := own_empty_at (κ := .i64) (τ := 3) (base := w.heap.size + 2) (g := w.heap.size + 1 + 1) (w := (w.alloc (.cells #[.slice (some ⟨gT, oT, none⟩) 5 cT, .slice (some ⟨gL, oL, none⟩) q cL] 34)).alloc (.cells #[.slice none 0 0, .slice none 0 0] 34)) (by simp) (by simp)
  have HAL2 := Lib.hid hal2
  have HZ2 := Lib.hid hz2
  have HBX2 := Lib.hid hb2
  have HS2 := Lib.hid hs2
  have HOE := Lib.hid hownE
  have HLL : Hid ((encZ L).length ≤ 999999) := Lib.hid (by rw [encZ_len, HLl.out]; decide)
  clear hal2 hz2 hb2 hs2 hownE
  go_wp2_with (at_builtin; refine Own.wpList_appI infoInt (by decide) rfl (.tmp 12) (.tmp 14) 22 rfl Try.underlying22 (w.heap.size + 2) _ [] rfl HOE.out _ q cL (encZ L) rfl (HLr.out.below (HAL2.out.trans ((Below.refl _ _).alloc (by have := HS2.out; omega) _))) (fun h => by cases h) (by have := HQ5.out; simp; omega) (by simp) ?_; intro v8 w8 hown8 hgrow8; have hb8 := Own.own_grown ((Below.refl (w.heap.size + 2) _).alloc (by have := HS2.out; omega) _) (by simp) hgrow8 HOE.out; rw [List.nil_append] at hown8; have hle : (encZ L).length = q := (by rw [encZ_len, HLl.out, HQ5.out]); obtain ⟨g8, c8, rfl, hg8, hf8⟩ := own_block hown8 (by rw [hle, HQ5.out]; decide); rw [hle] at hown8 ⊢; have HO8 := Lib.hid hown8; have HBX := Lib.hid ((hb8.block w.heap.size (by omega)).trans HBX2.out); have HZ := Lib.hid ((hb8.block (w.heap.size + 1) (by omega)).trans HZ2.out); have HB8 := Lib.hid (HAL2.out.trans (hb8.mono (by omega))); have HG8 := Lib.hid hg8; have HS8 : Hid (w.heap.size + 2 ≤ w8.heap.size) := Lib.hid (by have := hb8.size; have := HS2.out; omega); clear hown8 hgrow8 hb8 hle HAL2 HZ2 HBX2 HS2 HOE HLL hg8 hf8)
  go_loopw [18] (fun s18 wr => ∃ k : Nat, k ≤ nN ∧ s18 = .int .i64 (k : Int) ∧ Hid (Own.OwnI .i64 3 wr (w.heap.size + 2) (.slice (some ⟨g8, 0, none⟩) q c8) (encZ (haltL L (N.take k)))) ∧ Hid (Below (w.heap.size + 2) w8 wr)) (fun s18 _ => nN - (intOf s18).toNat)
  case atStart => exact ⟨0, Nat.zero_le _, rfl, HO8, Lib.hid (Below.refl _ _)⟩
  case round =>
    obtain ⟨k, hk, rfl, ho, hb⟩ := hrel
    have HBW : Hid (Below w.heap.size w wr) := Lib.hid (HB8.out.trans (hb.out.mono (by omega)))
    by_cases hlt : k < nN
    · obtain ⟨b, off, rfl, _, hc⟩ := (HN.out.below HBW.out).at_ hlt
      have hkM : k < N.length := by have := HNL.out; omega
      obtain ⟨x, hx⟩ : ∃ x, N.getD k 0 = x := ⟨_, rfl⟩
      have hxb := HNb.out x (by rw [← hx]; simp [List.getD, hkM])
      have hrt := haltL_take (L := L) hkM
      rw [hx] at hc hrt
      obtain ⟨j, rfl⟩ : ∃ j : Nat, x = (j : Int) := ⟨x.toNat, by omega⟩
      rw [Int.toNat_natCast] at hrt
      have hjq : (j : Int) < (q : Int) := by have := HQ5.out; omega
      obtain ⟨hfz, hcz⟩ : wr.frozen? ⟨g8, j, none⟩ = false ∧ ∃ z, wr.cell? ⟨g8, j, none⟩ = some (.int .i64 z) := by
        obtain ⟨g9, c9, e9, _, hf9⟩ := own_block ho.out (by rw [encZ_len, haltL_len, HLl.out]; decide)
        cases e9; exact ⟨(hf9 j).1, _, (hf9 j).2 (by rw [encZ_len, haltL_len, HLl.out]; omega)⟩
      obtain ⟨z, hcz⟩ := hcz
      have HNEW : Hid (Own.OwnI .i64 3 (wr.setCell ⟨g8, j, none⟩ (.int .i64 0)) (w.heap.size + 2) (.slice (some ⟨g8, 0, none⟩) q c8) (encZ (haltL L (N.take (k + 1))))) := Lib.hid (by
        rw [hrt, encZ_set]; exact own_store ho.out)
      have HK := Lib.hid (show k + 1 ≤ nN by omega)
      have hki : (k : Int) < (nN : Int) := by omega
      have hk5 : (k : Int) ≤ 5 := by omega
      clear hx hxb hrt hlt hk hkM
      go_wp2_with fail
      go_roundw
      case rel => exact ⟨k + 1, HK.out, by go_num, HNEW, Lib.hid (hb.out.setCell HG8.out _)⟩
      case measure => simp [intOf]; have := HK.out; omega
    · obtain rfl : k = nN := by omega
      have HE : Hid (N.take k = N) := Lib.hid (List.take_of_length_le (by have := HNL.out; omega))
      have HO9 : Hid (Own.OwnI .i64 3 wr (w.heap.size + 2) (.slice (some ⟨g8, 0, none⟩) q c8) (encZ (haltL L N))) := Lib.hid (by have := ho.out; rw [HE.out] at this; exact this)
      have HB9 := Lib.hid hb.out
      clear hk hlt ho HE HBW hb
      generalize wr = w9 at *
      go_wp2_with fail
      go_loopw [28] (fun s28 wr => ∃ k2 : Nat, k2 ≤ nM ∧ s28 = .int .i64 (k2 : Int) ∧ Hid (Own.OwnI .i64 3 wr (w.heap.size + 2) (.slice (some ⟨g8, 0, none⟩) q c8) (encZ (runL K (haltL L N) (M.take k2)))) ∧ Hid (Below (w.heap.size + 2) w8 wr)) (fun s28 _ => nM - (intOf s28).toNat)
      case atStart => exact ⟨0, Nat.zero_le _, rfl, HO9, HB9⟩
      case round =>
        obtain ⟨k2, hk, rfl, ho, hb⟩ := hrel
        have HBW : Hid (Below w.heap.size w wr) := Lib.hid (HB8.out.trans (hb.out.mono (by omega)))
        by_cases hlt : k2 < nM
        · obtain ⟨b, off, rfl, _, hc⟩ := (HM.out.below HBW.out).at_ hlt
          have hkM : k2 < M.length := by have := HML.out; omega
          obtain ⟨x, hx⟩ : ∃ x, M.getD k2 0 = x := ⟨_, rfl⟩
          have hxb := HMb.out x (by rw [← hx]; simp [List.getD, hkM])
          have hrt := runL_take (K := K) (L := haltL L N) hkM
          rw [hx] at hc hrt
          obtain ⟨j, rfl⟩ : ∃ j : Nat, x = (j : Int) := ⟨x.toNat, by omega⟩
          rw [Int.toNat_natCast] at hrt
          have hjq : (j : Int) < (q : Int) := by have := HQ5.out; omega
          obtain ⟨hfz, hcz⟩ : wr.frozen? ⟨g8, j, none⟩ = false ∧ ∃ z, wr.cell? ⟨g8, j, none⟩ = some (.int .i64 z) := by
            obtain ⟨g9, c9, e9, _, hf9⟩ := own_block ho.out (by rw [encZ_len, runL_len, haltL_len, HLl.out]; decide)
            cases e9; exact ⟨(hf9 j).1, _, (hf9 j).2 (by rw [encZ_len, runL_len, haltL_len, HLl.out]; omega)⟩
          obtain ⟨z, hcz⟩ := hcz
          have hbx := (hb.out.block w.heap.size (by omega)).trans HBX.out
          have c0 : wr.cell? ⟨w.heap.size, 0, none⟩ = some (.slice (some ⟨gT, oT, none⟩) 5 cT) := (cell_of_row _ _ _ _ _ _ hbx).trans rfl
          obtain ⟨bT, offT, eT, _, hcT⟩ := (HTr.out.below HBW.out).at_ (k := j) (by omega)
          cases eT
          rw [encZ_get] at hcT
          obtain ⟨y, hy⟩ : ∃ y, K.getD j 0 = y := ⟨_, rfl⟩
          rw [hy] at hcT
          have HNEW : Hid (Own.OwnI .i64 3 (wr.setCell ⟨g8, j, none⟩ (.int .i64 (y : Int))) (w.heap.size + 2) (.slice (some ⟨g8, 0, none⟩) q c8) (encZ (runL K (haltL L N) (M.take (k2 + 1))))) := Lib.hid (by
            rw [hrt, encZ_set, hy]; exact own_store ho.out)
          have HK := Lib.hid (show k2 + 1 ≤ nM by omega)
          have hki : (k2 : Int) < (nM : Int) := by omega
          have hk5 : (k2 : Int) ≤ 5 := by omega
          have hj5 : (j : Int) < 5 := by omega
          clear hx hxb hrt hlt hk hkM hbx hy
          go_wp2_with fail
          go_roundw
          case rel => exact ⟨k2 + 1, HK.out, by go_num, HNEW, Lib.hid (hb.out.setCell HG8.out _)⟩
          case measure => simp [intOf]; have := HK.out; omega
        · obtain rfl : k2 = nM := by omega
          have HE : Hid (M.take k2 = M) := Lib.hid (List.take_of_length_le (by have := HML.out; omega))
          have HOF : Hid (Own.OwnI .i64 3 wr (w.heap.size + 2) (.slice (some ⟨g8, 0, none⟩) q c8) (encZ (setL K L M N))) := Lib.hid (by have := ho.out; rw [HE.out] at this; exact this)
          have hbx := (hb.out.block w.heap.size (by omega)).trans HBX.out
          have hz : wr.heap[w.heap.size + 1]? = some (.cells #[.slice none 0 0, .slice none 0 0] 34 (0, 0)) := (hb.out.block (w.heap.size + 1) (by omega)).trans HZ.out
          have c0 : wr.cell? ⟨w.heap.size, 0, none⟩ = some (.slice (some ⟨gT, oT, none⟩) 5 cT) := (cell_of_row _ _ _ _ _ _ hbx).trans rfl
          clear hk hlt ho HE hbx
          go_wp2_with (refine wpList_store_row rfl 34 _ _ rfl (w.heap.size + 1) #[.slice (some ⟨gT, oT, none⟩) 5 cT, .slice (some ⟨g8, 0, none⟩) q c8] rfl rfl 34 _ hz ref_info rfl (by simp [Value.oneCell']) ?_)
          refine bodyPost_ret (results_cell_row rfl _ _ (w.heap.size + 1) 34 _ (0, 0) _ rfl (setRow_heap _ _ _ _ 34 (0, 0) hz) Try.underlying34 rfl ref_info) rfl ?_
          exact ⟨_, rfl, Five.own (own_setRow HOF.out (by omega)) (by unfold setL; rw [runL_len, haltL_len, HLl.out]) (fun b hb => by have := HB.out b hb; omega), below_setRow HBW.out (by omega) _⟩
end Go.Proofs.Ytlfjndjbfbejkaa.Pace
