/-
  Calls on a row, one behind the other, and rows that lie apart.
-/
import Derived.Test.YtbeejmkfldmjjaaLaw04I
import Derived.Test.YtbeejmkfldmjjaaViewR
import Derived.Test.YtbeejmkfldmjjaaBase4
namespace Go.Proofs.Ytbeejmkfldmjjaa.RingI
open Go.RowKit View

/-! ### the calls that came in -/
def RdP (w : World) (a : Option Addr) (n : Nat) (D : List (Int × Int)) : Prop :=
  n = D.length ∧ (0 < n → ∃ b off, a = some ⟨b, off, none⟩ ∧ b < w.heap.size ∧ ∀ i, i < n →
    w.cell? ⟨b, off + i * 2, none⟩ = some (.int .i64 (D.getD i (0, 0)).1) ∧ w.cell? ⟨b, off + i * 2 + 1, none⟩ = some (.int .i64 (D.getD i (0, 0)).2))
theorem RdP.below {w w' : World} {a : Option Addr} {n : Nat} {D : List (Int × Int)} (h : RdP w a n D) (hb : Below w.heap.size w w') : RdP w' a n D :=
  ⟨h.1, fun hn => by
    obtain ⟨b, off, e, hlt, hc⟩ := h.2 hn
    exact ⟨b, off, e, Nat.lt_of_lt_of_le hlt hb.size, fun i hi => ⟨(cell_below hb hlt).trans (hc i hi).1, (cell_below hb hlt).trans (hc i hi).2⟩⟩⟩
theorem RdP.at_ {w : World} {a : Option Addr} {n : Nat} {D : List (Int × Int)} {k : Nat} (h : RdP w a n D) (hk : k < n) : ∃ b off, a = some ⟨b, off, none⟩ ∧ b < w.heap.size ∧
    w.cell? ⟨b, off + k * 2, none⟩ = some (.int .i64 (D.getD k (0, 0)).1) ∧ w.cell? ⟨b, off + k * 2 + 1, none⟩ = some (.int .i64 (D.getD k (0, 0)).2) := by
  obtain ⟨b, off, e, hlt, hc⟩ := h.2 (by omega)
  exact ⟨b, off, e, hlt, (hc k hk).1, (hc k hk).2⟩
theorem rd_acts {W : World} {v : Value} {D : List (Int × Int)} (h : Base.Pairs W v D) : ∃ a n cap, v = .slice a n cap ∧ n ≤ maxLen ∧ RdP W a n D := by
  obtain ⟨a, n, cap, rfl, h1, h2, h3, h4, _, h6⟩ := h
  exact ⟨a, n, cap, rfl, Nat.le_trans h2 h3, h1, h6⟩

/-! ### rows apart -/
structure Apart (R : Nat) (G : Option Nat) (S : Nat) (K : Option Nat) : Prop where
  rs : R ≠ S
  gs : G ≠ some S
  rk : K ≠ some R
  gk : G = none ∨ G ≠ K
theorem Apart.symm {R S : Nat} {G K : Option Nat} (h : Apart R G S K) : Apart S K R G :=
  ⟨fun e => h.rs e.symm, h.rk, h.gs, by
    rcases h.gk with h1 | h1
    · by_cases hk : K = none
      · exact .inl hk
      · exact .inr (fun e => hk (by rw [e, h1]))
    · exact .inr (fun e => h1 e.symm)⟩
/-- what a call makes anew lies apart from what was there -/
theorem Apart.new {R S : Nat} {G K G' : Option Nat} {w : World} (h : Apart R G S K) (hS : S < w.heap.size) (hK : ∀ g, K = some g → g < w.heap.size) (hG : G' = G ∨ ∃ g, G' = some g ∧ w.heap.size ≤ g) : Apart R G' S K := by
  rcases hG with rfl | ⟨g, rfl, hg⟩
  · exact h
  · exact ⟨h.rs, fun e => by injection e with e; omega, h.rk, .inr fun e => by have := hK g e.symm; omega⟩
theorem Mine.lt {w wr : World} {base R most : Nat} {L : List V} {G : Option Nat} (h : Mine w base R most L G wr) : R < wr.heap.size ∧ ∀ g, G = some g → g < wr.heap.size := h.2.2.2.1.facts.2.2
theorem Mine.apart {w wr w' : World} {base R most S : Nat} {L : List V} {G K : Option Nat} (h : Mine w base R most L G wr) (ho : Only wr w' S K) (ha : Apart R G S K) (hb : Below base w w') : Mine w base R most L G w' :=
  ⟨hb, Nat.le_trans h.2.1 ho.size, h.2.2.1, h.2.2.2.1.only ho ha.rs ha.rk ha.gs ha.gk, h.2.2.2.2⟩

theorem clone_own {w wr : World} {base R most : Nat} {L : List V} {G : Option Nat} (h : Mine w base R most L G wr) :
    Calls Try.prog 14 #[.pointer (some ⟨R, 0, none⟩)] wr fun e w' => ∃ C g, e = .returned (.pointer (some ⟨C, 0, none⟩)) ∧ wr.heap.size ≤ C ∧ wr.heap.size ≤ g ∧ C ≠ g ∧ Mine w base C most L (some g) w' ∧ Mine w base R most L G w' ∧ Apart R G C (some g) ∧ Below wr.heap.size wr w' := by
  refine (clone_any R most L G wr h.2.2.2.1).mono ?_
  rintro e w' ⟨C, g, rfl, hC, hg, hne, hr, hb⟩
  have h2 := h.below hb
  have hs := h.2.1
  have hl := h.lt
  exact ⟨C, g, rfl, hC, hg, hne, ⟨h2.1, h2.2.1, Nat.le_trans hs hC, hr, fun x hx => by injection hx with hx; omega⟩, h2,
    ⟨by omega, fun e => by have := hl.2 C e; omega, fun e => by injection e with e; omega, by
      by_cases hG : G = none
      · exact .inl hG
      · exact .inr fun e => by have := hl.2 g e; omega⟩, hb⟩
theorem rdI_row {w : World} {g : Nat} {L : List V} (h : w.heap[g]? = some (.cells (encs L).toArray 3 (0, 0))) : RdI w (some ⟨g, 0, none⟩) L.length L :=
  ⟨rfl, fun _ => ⟨g, 0, rfl, (Array.getElem?_eq_some_iff.1 h).1, fun i hi => by
    rw [Nat.zero_add]
    exact row_cell h i _ (encs_at L i hi)⟩⟩

def act (most : Nat) (L : List V) (x : Int × Int) : List V := if x.1 = 1 then L.tail else putRow most L x.2
def acts (most : Nat) (L : List V) (D : List (Int × Int)) : List V := D.foldl (act most) L
theorem acts_step (most : Nat) (L : List V) (D : List (Int × Int)) (k : Nat) (h : k < D.length) : acts most L (D.take (k + 1)) = act most (acts most L (D.take k)) (D.getD k (0, 0)) := by
  rw [take_succ' D (0, 0) k h]
  simp [acts, List.foldl_append]

set_option maxHeartbeats 2000000 in
theorem play_any {w w1 : World} {base R most : Nat} {L : List V} {G : Option Nat} (a : Option Addr) (n cap : Nat) (D : List (Int × Int)) (h : Mine w base R most L G w1) (hD : RdP w a n D) (hbw : base = w.heap.size) (hn : n ≤ maxLen) :
    Calls Try.prog 25 #[.pointer (some ⟨R, 0, none⟩), .slice a n cap] w1 fun e w' => (∃ v, e = .returned v) ∧ ∃ G', Mine w base R most (acts most L (D.take 30)) G' w' ∧ Only w1 w' R G ∧ (G' = G ∨ ∃ g, G' = some g ∧ w1.heap.size ≤ g) := by
  subst hbw
  have H0 := Lib.hid h
  have HD := Lib.hid hD
  have hn2 : n ≤ 9223372036854775807 := Nat.le_trans hn (by simp [maxLen])
  clear h hD hn
  go_enter Try.func25, Try.ntmps25
  go_wp2_with fail
  go_loopw [4] (fun u4 wx => ∃ (i : Nat) (G' : Option Nat), i ≤ 30 ∧ i ≤ n ∧ u4 = .int .i64 (i : Int) ∧ Hid (Mine w w.heap.size R most (acts most L (D.take i)) G' wx) ∧ Hid (Only w1 wx R G) ∧ Hid (G' = G ∨ ∃ g, G' = some g ∧ w1.heap.size ≤ g)) (fun u4 _ => 30 - (intOf u4).toNat)
  case atStart => exact ⟨0, G, Nat.zero_le _, Nat.zero_le _, rfl, H0, Lib.hid (Only.of_below (Below.refl _ _)), Lib.hid (.inl rfl)⟩
  case round =>
    obtain ⟨i, G', hi, hin, rfl, hm, ho, hG⟩ := hrel
    by_cases hgo : i < n ∧ i < 30
    · obtain ⟨hg1, hg2⟩ := hgo
      have hd1 : decide (i < n) = true := decide_eq_true hg1
      have hd2 : decide ((i : Int) < 30) = true := decide_eq_true (by omega)
      have hi0 : (0 : Int) ≤ (i : Int) := by omega
      have hi1 : (i : Int) < (n : Int) := by omega
      obtain ⟨b, off, rfl, _, hc1, hc2⟩ := (HD.out.below hm.out.1).at_ hg1
      have hst := acts_step most L D i (by have := HD.out.1; omega)
      obtain ⟨x, hx⟩ : ∃ x, D.getD i (0, 0) = x := ⟨_, rfl⟩
      rw [hx] at hc1 hc2 hst
      clear hx
      obtain ⟨x1, x2⟩ := x
      simp only at hc1 hc2
      by_cases hx1 : x1 = 1
      · subst hx1
        have hst' : acts most L (D.take (i + 1)) = (acts most L (D.take i)).tail := hst
        have HST := Lib.hid hst'
        clear hst hst'
        go_wp2_with fail
        refine (take_own hm.out).mono ?_; rintro e w5 ⟨rfl, hm5, ho5⟩
        have HM5 := Lib.hid hm5
        have HO5 := Lib.hid (ho.out.trans ho5 hG.out)
        clear hm5 ho5
        go_wp2_with fail
        go_roundw
        case rel => exact ⟨i + 1, G', by omega, by omega, by go_num, Lib.hid (by rw [HST.out]; exact HM5.out), HO5, hG⟩
        case measure => simp [intOf]; omega
      · have hst' : acts most L (D.take (i + 1)) = putRow most (acts most L (D.take i)) x2 := hst.trans (if_neg hx1)
        have hx2 : (x1 == 1) = false := by simpa using hx1
        have HST := Lib.hid hst'
        clear hst hst'
        go_wp2_with fail
        refine (put_own x2 hm.out).mono ?_; rintro e w5 ⟨rfl, G5, hm5, ho5, hg5⟩
        have HM5 := Lib.hid hm5
        have HG5 : Hid (G5 = G ∨ ∃ g, G5 = some g ∧ w1.heap.size ≤ g) := Lib.hid (by
          rcases hg5 with rfl | ⟨g, rfl, hg⟩
          · exact hG.out
          · exact .inr ⟨g, rfl, Nat.le_trans ho.out.size hg⟩)
        have HO5 := Lib.hid (ho.out.trans ho5 hG.out)
        clear hm5 ho5 hg5
        go_wp2_with fail
        go_roundw
        case rel => exact ⟨i + 1, G5, by omega, by omega, by go_num, Lib.hid (by rw [HST.out]; exact HM5.out), HO5, HG5⟩
        case measure => simp [intOf]; omega
    · have hend : D.take i = D.take 30 := by
        have := HD.out.1
        by_cases h1 : i < n
        · rw [show i = 30 from by omega]
        · rw [List.take_of_length_le (by omega), List.take_of_length_le (by omega)]
      have HEND := Lib.hid hend
      have hcase : decide (i < n) = false ∨ (decide (i < n) = true ∧ decide ((i : Int) < 30) = false) := by
        by_cases h1 : i < n
        · exact .inr ⟨decide_eq_true h1, decide_eq_false (by omega)⟩
        · exact .inl (decide_eq_false h1)
      clear hgo hi hend hin
      rcases hcase with hd1 | ⟨hd1, hd2⟩
      all_goals
        go_wp2_with fail
        (try simp only [Exit.inBlock, Exit.then]); refine bodyPost_end (results_none rfl _ _ _) rfl ?_
        exact ⟨⟨_, rfl⟩, G', by rw [← HEND.out]; exact hm.out, ho.out, hG.out⟩
end Go.Proofs.Ytbeejmkfldmjjaa.RingI
