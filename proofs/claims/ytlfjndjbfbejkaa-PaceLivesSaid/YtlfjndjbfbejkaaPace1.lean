/-
  The pace: what its memory holds, and the calls that start and stop its timers.
-/
import Derived.Test.YtlfjndjbfbejkaaTimer2
import Derived.Test.YtlfjndjbfbejkaaQuietTail
import Derived.Test.YtlfjndjbfbejkaaOwn
namespace Go.Proofs.Ytlfjndjbfbejkaa.Pace
open Go.RowKit View Bank

/-- a pace in a block of its own: what is left of each timer, and what each runs -/
structure At (w : World) (B : Nat) (K L : List Nat) : Prop where
  bank : BankAt w B 0 [] (encN K) 49 L
  klen : K.length = 5
  kbd : ∀ i, i < 5 → 1 ≤ K.getD i 0 ∧ K.getD i 0 ≤ 1048576
def runL (K L : List Nat) (M : List Int) : List Nat := M.foldl (fun L t => L.set t.toNat (K.getD t.toNat 0)) L
def haltL (L : List Nat) (M : List Int) : List Nat := M.foldl (fun L t => L.set t.toNat 0) L
theorem runL_take {K L : List Nat} {M : List Int} {k : Nat} (h : k < M.length) : runL K L (M.take (k + 1)) = (runL K L (M.take k)).set (M.getD k 0).toNat (K.getD (M.getD k 0).toNat 0) := by
  unfold runL; rw [View.take_succ' M 0 k h, List.foldl_append]; rfl
theorem haltL_take {L : List Nat} {M : List Int} {k : Nat} (h : k < M.length) : haltL L (M.take (k + 1)) = (haltL L (M.take k)).set (M.getD k 0).toNat 0 := by
  unfold haltL; rw [View.take_succ' M 0 k h, List.foldl_append]; rfl
theorem cell_only {w w' : World} {B g o : Nat} (h : Only w w' B) (hg : g < w.heap.size) (hn : g ≠ B) : w'.cell? ⟨g, o, none⟩ = w.cell? ⟨g, o, none⟩ := by
  have := h.block g hg hn
  unfold World.cell?
  simp [this]
theorem rd_only {w w' : World} {B g o n : Nat} {M : List Int} (h : RdI w (some ⟨g, o, none⟩) n M) (ho : Only w w' B) (hn : g ≠ B) : RdI w' (some ⟨g, o, none⟩) n M :=
  ⟨h.1, fun h0 => by
    obtain ⟨b, off, e, hlt, hc⟩ := h.2 h0
    cases e
    exact ⟨g, o, rfl, Nat.lt_of_lt_of_le hlt ho.size, fun i hi => (cell_only ho hlt hn).trans (hc i hi)⟩⟩
section
variable {w w' : World} {B : Nat} {K L : List Nat}
theorem At.lt (h : At w B K L) : B < w.heap.size := h.bank.lt
theorem At.below (h : At w B K L) (hb : Below w.heap.size w w') : At w' B K L := ⟨h.bank.below hb, h.klen, h.kbd⟩
theorem At.only {B2 : Nat} (h : At w B K L) (ho : Only w w' B2) (hn : B ≠ B2) : At w' B K L := ⟨h.bank.only ho hn, h.klen, h.kbd⟩
theorem At.drewN (h : At w B K L) (n : Nat) : At (w.drewN n) B K L := ⟨h.bank.drewN n, h.klen, h.kbd⟩
theorem At.alloc (h : At w B K L) (o : Obj) : At (w.alloc o) B K L := h.below ((Below.refl _ w).alloc (Nat.le_refl _) o)
theorem At.tick (h : At w B K L) {i : Nat} (hi : i < 5) : w.cell? ⟨B, 5 + i, none⟩ = some (.int .i64 ((K.getD i 0 : Nat) : Int)) := by
  rw [cell_of_row w B (5 + i) _ _ (0, 0) h.bank.blk]
  have h1 : i < K.length := by rw [h.klen]; exact hi
  have h2 : (encN L).length = 5 := by simp [encN, h.bank.len]
  rw [List.nil_append, List.getElem?_toArray, List.getElem?_append_right (by omega), h2, show 5 + i - 5 = i from by omega]
  simp [encN, List.getD, h1]
end
section
variable (B : Nat) (K L : List Nat)
theorem clampK {K : List Nat} {i : Nat} (h : 1 ≤ K.getD i 0 ∧ K.getD i 0 ≤ 1048576) : clampN ((K.getD i 0 : Nat) : Int) = K.getD i 0 := by unfold clampN; omega
set_option maxRecDepth 100000 in
set_option maxHeartbeats 2000000 in
theorem run_any (g n cap : Nat) (M : List Int) (w : World) (h : At w B K L) (hr : RdI w (some ⟨g, 0, none⟩) n M) (hg : g ≠ B) (hM : ∀ z ∈ M, 0 ≤ z ∧ z < 5) (hn : n ≤ 5) :
    Calls Try.prog 40 #[.pointer (some ⟨B, 0, none⟩), .slice (some ⟨g, 0, none⟩) n cap] w fun e w' => (∃ v, e = .returned v) ∧ At w' B K (runL K L M) ∧ Only w w' B := by
  have HL := Lib.hid hr
  have HLN := Lib.hid hr.1
  have HM := Lib.hid hM
  have HG := Lib.hid hg
  have H := Lib.hid h
  clear h hr hM hg
  go_enter Try.func40, Try.ntmps40
  go_wp2_with fail
  go_loopw [8] (fun s8 wr => ∃ k : Nat, k ≤ n ∧ s8 = .int .i64 (k : Int) ∧ Hid (At wr B K (runL K L (M.take k))) ∧ Hid (Only w wr B)) (fun s8 _ => n - (intOf s8).toNat)
  case atStart => exact ⟨0, Nat.zero_le _, rfl, Lib.hid H.out, Lib.hid (Only.refl _ _)⟩
  case round =>
    obtain ⟨k, hk, rfl, ha, ho⟩ := hrel
    by_cases hlt : k < n
    · obtain ⟨b, off, e, _, hc⟩ := (rd_only HL.out ho.out HG.out).at_ hlt
      cases e
      rw [Nat.zero_add] at hc
      have hkM : k < M.length := by have := HLN.out; omega
      obtain ⟨x, hx⟩ : ∃ x, M.getD k 0 = x := ⟨_, rfl⟩
      have hxb := HM.out x (by rw [← hx]; simp [List.getD, hkM])
      have hrt := runL_take (K := K) (L := L) hkM
      rw [hx] at hc hrt
      obtain ⟨j, rfl⟩ : ∃ j : Nat, x = (j : Int) := ⟨x.toNat, by omega⟩
      rw [Int.toNat_natCast] at hrt
      have hj : j < 5 := by omega
      have HRT := Lib.hid hrt
      have htk := ha.out.tick hj
      have HCK := Lib.hid (clampK (H.out.kbd j hj))
      obtain ⟨q, hq⟩ : ∃ q, K.getD j 0 = q := ⟨_, rfl⟩
      rw [hq] at htk
      have HQ := Lib.hid hq
      have HJ := Lib.hid hj
      have hkn : (k : Int) < (n : Int) := by omega
      have hk5 : (k : Int) ≤ 5 := by omega
      have hj5 : (j : Int) < 5 := by omega
      have HK := Lib.hid (show k + 1 ≤ n by omega)
      clear hx hxb hrt hj hq hlt hk hkM
      go_wp2_with fail
      refine QT.region_quiet_tail 10 (by kernel_rfl) (by decide) (by kernel_rfl) ?_
      simp only [List.take_succ_cons, List.take_zero, List.drop_succ_cons, List.drop_zero]
      repeat (go_big_quiet_step (fail))
      refine wpQuiet_nil ?_
      intro _ hw'
      obtain ⟨nq, rfl⟩ := hw'
      go_wp2_with fail
      refine (start_any B 0 [] (encN K) _ _ (j : Int) (q : Int) _ (ha.out.drewN nq).bank).mono ?_; rintro e w1 ⟨⟨v1, rfl⟩, hb1, ho1⟩
      have H1 : Hid (At w1 B K (runL K L (M.take (k + 1)))) := Lib.hid ⟨by
        rw [HRT.out, HQ.out]
        rw [startL, if_pos (by have := HJ.out; omega), Int.toNat_natCast, ← HQ.out, HCK.out, HQ.out] at hb1
        exact hb1, H.out.klen, H.out.kbd⟩
      have HO1 : Hid (Only w w1 B) := Lib.hid ((ho.out.trans (Only.draw _ _ nq)).trans ho1)
      clear hb1 ho1 hc htk
      go_wp2_with fail
      go_roundw
      case rel => exact ⟨k + 1, HK.out, by go_num, H1, HO1⟩
      case measure => simp [intOf]; have := HK.out; omega
    · obtain rfl : k = n := by omega
      have HE : Hid (M.take k = M) := Lib.hid (List.take_of_length_le (by have := HLN.out; omega))
      clear hk hlt
      go_wp2_with fail
      (try simp only [Exit.inBlock, Exit.then]); refine bodyPost_end (results_none rfl _ _ _) rfl ?_
      exact ⟨⟨_, rfl⟩, by have := ha.out; rw [HE.out] at this; exact this, ho.out⟩
set_option maxRecDepth 100000 in
set_option maxHeartbeats 2000000 in
theorem halt_any (g n cap : Nat) (M : List Int) (w : World) (h : At w B K L) (hr : RdI w (some ⟨g, 0, none⟩) n M) (hg : g ≠ B) (hM : ∀ z ∈ M, 0 ≤ z ∧ z < 5) (hn : n ≤ 5) :
    Calls Try.prog 39 #[.pointer (some ⟨B, 0, none⟩), .slice (some ⟨g, 0, none⟩) n cap] w fun e w' => (∃ v, e = .returned v) ∧ At w' B K (haltL L M) ∧ Only w w' B := by
  have HL := Lib.hid hr
  have HLN := Lib.hid hr.1
  have HM := Lib.hid hM
  have HG := Lib.hid hg
  have H := Lib.hid h
  clear h hr hM hg
  go_enter Try.func39, Try.ntmps39
  go_wp2_with fail
  go_loopw [8] (fun s8 wr => ∃ k : Nat, k ≤ n ∧ s8 = .int .i64 (k : Int) ∧ Hid (At wr B K (haltL L (M.take k))) ∧ Hid (Only w wr B)) (fun s8 _ => n - (intOf s8).toNat)
  case atStart => exact ⟨0, Nat.zero_le _, rfl, Lib.hid H.out, Lib.hid (Only.refl _ _)⟩
  case round =>
    obtain ⟨k, hk, rfl, ha, ho⟩ := hrel
    by_cases hlt : k < n
    · obtain ⟨b, off, e, _, hc⟩ := (rd_only HL.out ho.out HG.out).at_ hlt
      cases e
      rw [Nat.zero_add] at hc
      have hkM : k < M.length := by have := HLN.out; omega
      obtain ⟨x, hx⟩ : ∃ x, M.getD k 0 = x := ⟨_, rfl⟩
      have hxb := HM.out x (by rw [← hx]; simp [List.getD, hkM])
      have hrt := haltL_take (L := L) hkM
      rw [hx] at hc hrt
      have HRT := Lib.hid hrt
      have HX := Lib.hid hxb
      have hkn : (k : Int) < (n : Int) := by omega
      have hk5 : (k : Int) ≤ 5 := by omega
      have HK := Lib.hid (show k + 1 ≤ n by omega)
      clear hx hxb hrt hlt hk hkM
      go_wp2_with fail
      refine (stop_any B 0 [] (encN K) _ _ x _ ha.out.bank).mono ?_; rintro e w1 ⟨⟨v1, rfl⟩, hb1, ho1⟩
      have H1 : Hid (At w1 B K (haltL L (M.take (k + 1)))) := Lib.hid ⟨by
        rw [HRT.out]
        rw [stopL, if_pos HX.out] at hb1
        exact hb1, H.out.klen, H.out.kbd⟩
      have HO1 : Hid (Only w w1 B) := Lib.hid (ho.out.trans ho1)
      clear hb1 ho1 hc
      go_wp2_with fail
      go_roundw
      case rel => exact ⟨k + 1, HK.out, by go_num, H1, HO1⟩
      case measure => simp [intOf]; have := HK.out; omega
    · obtain rfl : k = n := by omega
      have HE : Hid (M.take k = M) := Lib.hid (List.take_of_length_le (by have := HLN.out; omega))
      clear hk hlt
      go_wp2_with fail
      (try simp only [Exit.inBlock, Exit.then]); refine bodyPost_end (results_none rfl _ _ _) rfl ?_
      exact ⟨⟨_, rfl⟩, by have := ha.out; rw [HE.out] at this; exact this, ho.out⟩
end
end Go.Proofs.Ytlfjndjbfbejkaa.Pace
