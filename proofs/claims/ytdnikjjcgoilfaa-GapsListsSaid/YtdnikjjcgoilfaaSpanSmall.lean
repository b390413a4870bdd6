/-
  The small calls of sets: a span brought among those that may be, the order of two, how many, which.
-/
import Derived.Test.YtdnikjjcgoilfaaView
import Derived.Shelf.SlSortCmp.WholeK
namespace Go.Proofs.Ytdnikjjcgoilfaa.SpanCalls
open Go.RowKit SpanMath View Go.Sort Go.Shelf

def sp (x : Sp) : Value := .agg #[.int .i64 x.1, .int .i64 x.2]

theorem near_any (x y : Int) (w : World) (h1 : -1099511627776 ≤ x) (h2 : x ≤ 1099511627776) (h3 : -1099511627776 ≤ y) (h4 : y ≤ 1099511627777) :
    Calls Try.prog 35 #[.agg #[.int .i64 x, .int .i64 y]] w fun e w' => e = .returned (.agg #[.int .i64 x, .int .i64 y]) ∧ Below w.heap.size w w' := by
  go_enter Try.func35, Try.ntmps35
  go_wp2_with fail
  exact bodyPost_ret (v := .agg #[.int .i64 x, .int .i64 y]) (by simp [results, Try.results35, go_sem]; omega) rfl ⟨rfl, by
    exact (((Below.refl _ _).alloc (Nat.le_refl _) _).alloc (by simp) _)⟩

def cmpI (x y : Int) : Int := if x < y then -1 else if y < x then 1 else 0

theorem isNaN_any (x : Int) (w : World) : Calls Try.prog 46 #[.int .i64 x] w fun e w' => e = .returned (.bool false) ∧ w = w' := by
  go_enter Try.func46, Try.ntmps46
  go_wp2_with fail
  go_ret
  exact ⟨rfl, rfl⟩

theorem compare_any (x y : Int) (w : World) : Calls Try.prog 33 #[.int .i64 x, .int .i64 y] w fun e w' => e = .returned (.int .i64 (cmpI x y)) ∧ w = w' := by
  unfold cmpI
  go_enter Try.func33, Try.ntmps33
  go_wp2_with fail
  refine (isNaN_any _ _).mono ?_; rintro e w' ⟨rfl, rfl⟩
  go_wp2_with fail
  refine (isNaN_any _ _).mono ?_; rintro e w' ⟨rfl, rfl⟩
  go_wp2_with fail
  all_goals go_ret
  · exact ⟨by simp_all, rfl⟩
  · exact ⟨by simp_all, rfl⟩
  · exact ⟨by simp_all, rfl⟩

theorem less_any (x y : Sp) (W : World) : Calls Try.prog 32 #[.agg #[.int .i64 x.1, .int .i64 x.2], .agg #[.int .i64 y.1, .int .i64 y.2]] W fun e w' => e = .returned (.int .i64 (cmpI x.1 y.1)) ∧ ∃ q os', w' = grow (W.drewN q) os' := by
  go_enter Try.func32, Try.ntmps32
  go_wp2_with fail
  refine (compare_any _ _ _).mono ?_; rintro e w' ⟨rfl, rfl⟩
  go_wp2_with fail
  go_ret
  exact ⟨rfl, 0, _, by rw [alloc_eq_grow, alloc_eq_grow, grow_grow]; rfl⟩

theorem clone_any (a : Option Addr) (n cap : Nat) (S : List Sp) (w : World) (h : RdS w a n S) (hf : Fit a n cap) (hn : n ≤ 100000) :
    Calls Try.prog 30 #[.slice a n cap] w fun e w' => ∃ v, e = .returned v ∧ OwnS w' w.heap.size v S ∧ Below w.heap.size w w' := by
  have HL := Lib.hid h
  have HF := Lib.hid hf
  clear h hf
  have q22 : ∀ (w : World) (a : Option Addr) (n c n' c' : Nat), (binOp .eql 22 (.slice a n c) (.slice none n' c')).run Try.prog w = .ok (.bool a.isNone) w := fun w a n c n' c' => Lib.run_eql_slice_nil w _ _ a n c n' c' Try.underlying22
  cases a with
  | none =>
    go_enter Try.func30, Try.ntmps30
    go_wp2_with fail
    go_ret
    refine ⟨_, rfl, ?_, Below.refl _ _⟩
    have : S = [] := by
      have h1 := HL.out.1
      rcases Nat.eq_zero_or_pos n with h0 | h0
      · exact List.eq_nil_of_length_eq_zero (by omega)
      · obtain ⟨_, _, e, _⟩ := HL.out.2 h0; cases e
    subst this
    exact OwnS.nil
  | some ad =>
    go_enter Try.func30, Try.ntmps30
    go_wp2_with (at_builtin; refine wpList_appS rfl (.tmp 5) (.tmp 6) 22 rfl Try.underlying22 w.heap.size _ [] rfl (World.ownsRow_made w #[] 0 (Nat.le_refl _) (by simp [maxLen]) (by simp)) _ n cap S rfl (HL.out.alloc _) (fun h => by cases h) (by simp; omega) (by simp) ?_)
    intro v' w1 hown' hgrow
    have hb' : Below w.heap.size w w1 := ((Below.refl _ w).alloc (Nat.le_refl _) _).grown hgrow (by simp) (fun j hj => by simp [Value.ownBlock] at hj; omega)
    clear hgrow
    go_wp2_with fail
    go_ret
    exact ⟨_, rfl, by simpa using hown', hb'⟩

end Go.Proofs.Ytdnikjjcgoilfaa.SpanCalls
