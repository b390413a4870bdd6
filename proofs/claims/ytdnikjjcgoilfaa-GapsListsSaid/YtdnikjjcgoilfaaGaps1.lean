/-
  Gaps: whether numbers rise, counted from a base on.
-/
import Derived.Test.YtdnikjjcgoilfaaSeqCalls
import Derived.Test.YtdnikjjcgoilfaaOwn
namespace Go.Proofs.Ytdnikjjcgoilfaa.Gaps
open Go.ChangeShapes Go.WideShapes Go.RowKit Own

def wayI (base x : Int) : Int := (x - base) % 16777216
def riseL (base far : Int) : Int → List Int → Bool
  | _, [] => true
  | least, x :: l => if wayI base x < least ∨ wayI base x > far then false else riseL base far (wayI base x + 1) l
theorem drop_cons (L : List Int) (i : Nat) (h : i < L.length) : L.drop i = L.getD i 0 :: L.drop (i + 1) := by
  rw [List.drop_eq_getElem_cons h]; simp [List.getD, h]
set_option maxHeartbeats 1000000 in
theorem rise_any (base far : Int) (a : Option Addr) (n cap : Nat) (L : List Int) (w : World) (h : RdI .u32 w a n L) (hn : n ≤ 1000000) :
    Calls Try.prog 40 #[.int .u32 base, .int .i64 far, .slice a n cap] w fun e w' => e = .returned (.bool (riseL base far 0 L)) ∧ w = w' := by
  have HL := Lib.hid h
  obtain ⟨R, hR⟩ : ∃ R, riseL base far 0 L = R := ⟨_, rfl⟩
  have HR := Lib.hid hR
  rw [hR]
  clear h hR
  go_enter Try.func40, Try.ntmps40
  go_wp2_with fail
  go_loop [7, 13] (fun s7 s13 => ∃ (i : Nat) (least : Int), i ≤ n ∧ s13 = .int .i64 (i : Int) ∧ s7 = .int .i64 least ∧ 0 ≤ least ∧ least ≤ 16777216 ∧ Hid (riseL base far least (L.drop i) = R)) (fun _ s13 => n - (intOf s13).toNat)
  case atStart => exact ⟨0, 0, Nat.zero_le _, rfl, rfl, by decide, by decide, HR⟩
  case round =>
    obtain ⟨i, least, hi, rfl, rfl, hl0, hl1, hr⟩ := hrel
    by_cases hlt : i < n
    · obtain ⟨b, off, rfl, _, hc⟩ := HL.out.at_ hlt
      have hlen : i < L.length := by have := HL.out.1; omega
      have hd := drop_cons L i hlen
      obtain ⟨x, hx⟩ : ∃ x, L.getD i 0 = x := ⟨_, rfl⟩
      rw [hx] at hc hd
      have hr2 := hr.out
      rw [hd, riseL] at hr2
      have HR2 := Lib.hid hr2
      have HLT := Lib.hid hlt
      obtain ⟨y, hy⟩ : ∃ y, wayI base x = y := ⟨_, rfl⟩
      have hy0 : 0 ≤ y ∧ y < 16777216 := by rw [← hy]; unfold wayI; omega
      obtain ⟨y0, y1⟩ := hy0
      rw [hy] at HR2
      have HY := Lib.hid hy
      clear hx hd hr hr2 hy hlen
      by_cases hbad : y < least ∨ y > far
      · have HF : Hid (R = false) := Lib.hid (by have := HR2.out; rw [if_pos hbad] at this; exact this.symm)
        clear HR2
        by_cases h1 : y < least
        · go_wp2_with (refine (SeqCalls.to_any base x _).mono ?_; rintro e w' ⟨rfl, rfl⟩; rw [show (x - base) % 16777216 = y from HY.out])
          go_ret
          exact ⟨congrArg (fun b => Ending.returned (.bool b)) HF.out.symm, rfl⟩
        · have h2 : far < y := by omega
          go_wp2_with (refine (SeqCalls.to_any base x _).mono ?_; rintro e w' ⟨rfl, rfl⟩; rw [show (x - base) % 16777216 = y from HY.out])
          go_ret
          exact ⟨congrArg (fun b => Ending.returned (.bool b)) HF.out.symm, rfl⟩
      · have h1 : ¬ y < least := fun h => hbad (.inl h)
        have h2 : ¬ far < y := fun h => hbad (.inr h)
        have HR3 : Hid (riseL base far (y + 1) (L.drop (i + 1)) = R) := Lib.hid (by have := HR2.out; rw [if_neg hbad] at this; exact this)
        clear HR2 hbad
        go_wp2_with (refine (SeqCalls.to_any base x _).mono ?_; rintro e w' ⟨rfl, rfl⟩; rw [show (x - base) % 16777216 = y from HY.out])
        go_round
        case rel => exact ⟨i + 1, y + 1, HLT.out, by go_num, rfl, by omega, by omega, HR3⟩
        case measure => simp [intOf]; have := HLT.out; omega
    · obtain rfl : i = n := by omega
      have HF : Hid (R = true) := Lib.hid (by
        have := hr.out
        rw [List.drop_of_length_le (by have := HL.out.1; omega), riseL] at this
        exact this.symm)
      go_wp2_with fail
      go_ret
      exact ⟨congrArg (fun b => Ending.returned (.bool b)) HF.out.symm, rfl⟩
end Go.Proofs.Ytdnikjjcgoilfaa.Gaps
