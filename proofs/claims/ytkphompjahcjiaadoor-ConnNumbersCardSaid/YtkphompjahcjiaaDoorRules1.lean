/-
  What is done with units, by the state: the table of states, a map of rows.
-/
import Derived.Test.YtkphompjahcjiaaDoorFlat
import Derived.WalkKit
import Derived.ProofKit
import Derived.OpenShut
import Derived.Lib.Hide
import Derived.Maps.OwnSet
namespace Go.Proofs.YtkphompjahcjiaaDoor.Rules
open Go.ChangeShapes Go.WideShapes Go.RowKit Go.Maps

theorem law : Keyed Tryd.prog 3 := int_keyed Tryd.underlying3
/-- how a row of the table reads -/
def rowR : Value → Option (DataW Unit × List MemPlace)
  | .agg ⟨[.int .i64 a, .string s]⟩ => some (.agg [.lit (.int .i64 a), .lit (.string s.data.toList)], [])
  | _ => none
theorem rowR_mk (a : Int) (s : ByteArray) : rowR (.agg #[.int .i64 a, .string s]) = some (.agg [.lit (.int .i64 a), .lit (.string s.data.toList)], []) := rfl
theorem rowR_inv {v : Value} {z : DataW Unit × List MemPlace} (h : rowR v = some z) : ∃ a s, v = .agg #[.int .i64 a, .string s] ∧ z = (.agg [.lit (.int .i64 a), .lit (.string s.data.toList)], []) := by
  unfold rowR at h
  split at h
  · exact ⟨_, _, rfl, (Option.some.inj h).symm⟩
  · cases h
def rowD (p : Int × ByteArray) : DataW Unit := .agg [.lit (.int .i64 p.1), .lit (.string p.2.data.toList)]
/-- the map behind so many rows -/
def mapD (rs : List (Int × ByteArray)) : Nat → DataW Unit
  | 0 => .map []
  | k + 1 => (mapD rs k).put (.int .i64 (rs.getD k (0, ⟨#[]⟩)).1) (rowD (rs.getD k (0, ⟨#[]⟩)))

/-- a look-up at the operation, whatever the elements -/
theorem wpList_lookup_own {H : Type} {P : Program} (w : World) {ops : Array Oper} {rest : List Oper} {o : Oper} {a : Act} {Q : Exit → Act → World → Prop}
    (hg : o.guard = none) (m x : Operand) (t : TypeId) (hop : o.op = Op.lookup t m x false)
    (k e : TypeId) (K : Keyed P k) (ht : P.underlying t = some (.map k e)) (R : Value → Option (DataW H × List MemPlace)) {z : Value} (hz : (zeroValue e).run P w = .ok z w) (zd : DataW H) (zp : List MemPlace) (hzd : R z = some (zd, zp)) (b n : Nat) (D : DataW H)
    (hm : a.eval m = .map (some b)) (hown : w.ownsMap P k R b n D) (key : Value) (kl : Lit) (hx : a.eval x = key) (hkey : keyOf P k key = some kl)
    (hK : ∀ v ps, R v = some (D.atKey kl zd, ps) → wpList P ops Q rest (a.put o.dst v) w) :
    wpList P ops Q (o :: rest) a w := by
  refine wpList_plain hg fun K' hK' => ?_
  obtain ⟨v, ps, hrun, hv⟩ := hown.lookup K ht hz hzd hkey
  unfold Oper.wp
  simp [execOp, hop, hm, hx, hrun, Result.andThen]
  exact hK' _ _ (hK v ps hv)

set_option maxRecDepth 100000 in
set_option maxHeartbeats 1000000 in
theorem table_any (w : World) (b cap : Nat) (rs : List (Int × ByteArray)) (hb : b < w.heap.size) (hn : rs.length ≤ 1000)
    (hc : ∀ i, i < rs.length → w.cell? ⟨b, i * 2, none⟩ = some (.int .i64 (rs.getD i (0, ⟨#[]⟩)).1) ∧ w.cell? ⟨b, i * 2 + 1, none⟩ = some (.string (rs.getD i (0, ⟨#[]⟩)).2))
    (hw : ∀ i, i < rs.length → (Lit.int .i64 (rs.getD i (0, ⟨#[]⟩)).1).wf = true) :
    Calls Tryd.prog 90 #[.slice (some ⟨b, 0, none⟩) rs.length cap] w fun e w' => ∃ g, e = .returned (.map (some g)) ∧ w'.ownsMap Tryd.prog 3 rowR g rs.length (mapD rs rs.length) ∧ w.heap.size ≤ g ∧ Below w.heap.size w w' := by
  have hmm := @run_makeMap Tryd.prog
  obtain ⟨n, hnn⟩ : ∃ n, rs.length = n := ⟨_, rfl⟩
  rw [hnn] at hc hn hw ⊢
  have HC := Lib.hid hc
  have HW := Lib.hid hw
  clear hc hw hnn
  go_enter Tryd.func90, Tryd.ntmps90
  go_wp2_with fail
  go_loopw [9] (fun s9 wr => ∃ k : Nat, k ≤ n ∧ s9 = .int .i64 k ∧ Hid (wr.ownsMap Tryd.prog 3 rowR w.heap.size k (mapD rs k)) ∧ Hid (Below w.heap.size w wr))
    (fun s9 _ => n - (intOf s9).toNat)
  case atStart => exact ⟨0, Nat.zero_le _, rfl, Lib.hid (World.ownsMap_made _ _ _ _), Lib.hid ((Below.refl _ _).alloc (Nat.le_refl _) _)⟩
  case round =>
    obtain ⟨k, hk, rfl, hown, hnx⟩ := hrel
    by_cases hlt : k < n
    · obtain ⟨p, hp⟩ : ∃ p, rs.getD k (0, ⟨#[]⟩) = p := ⟨_, rfl⟩
      obtain ⟨x, s⟩ := p
      have c0 : wr.cell? ⟨b, k * 2, none⟩ = some (.int .i64 x) := by
        have := (HC.out k hlt).1
        rw [hp] at this
        exact (hnx.out.cell (p := ⟨b, k * 2, none⟩) (by exact hb)).trans this
      have c1 : wr.cell? ⟨b, k * 2 + 1, none⟩ = some (.string s) := by
        have := (HC.out k hlt).2
        rw [hp] at this
        exact (hnx.out.cell (p := ⟨b, k * 2 + 1, none⟩) (by exact hb)).trans this
      have hwx : (Lit.int .i64 x).wf = true := by have := HW.out k hlt; rw [hp] at this; exact this
      have hkey : keyOf Tryd.prog 3 (.int .i64 x) = some (.int .i64 x) := keyOf_int_mk Tryd.underlying3 hwx
      have hstep : Hid (mapD rs (k + 1) = (mapD rs k).put (.int .i64 x) (.agg [.lit (.int .i64 x), .lit (.string s.data.toList)])) := Lib.hid (by
        show (mapD rs k).put _ (rowD _) = _
        rw [hp]; rfl)
      have HP := Lib.hid hp
      have hK := Lib.hid hkey
      clear hp hwx hkey
      go_wp2_with (at_mapUpdate; refine wpList_mapUpdate_own _ rfl _ _ _ 134 rfl 3 133 law Tryd.underlying134 _ w.heap.size k _ rfl (hown.out.alloc _) (by unfold maxLen; omega) _ _ _ rfl rfl hK.out _ [] (rowR_mk _ _) ?_; intro w1 hown1 hgrow1; have R1 := Lib.hid (hstep.out.symm ▸ hown1); have R2 := Lib.hid ((hnx.out.alloc hnx.out.size _).grown hgrow1 (by have := hnx.out.size; simp; omega) (fun j hj => by cases hj; exact Nat.le_refl _)); clear hown1 hgrow1 hown hnx)
      go_roundw
      case rel => exact ⟨k + 1, by omega, by go_num, R1, R2⟩
      case measure => simp [intOf]; omega
    · obtain rfl : k = n := by omega
      go_wp2_with fail
      go_ret
      exact ⟨_, rfl, hown.out, Nat.le_refl _, hnx.out⟩

def b2 (l : List UInt8) : ByteArray := ⟨l.toArray⟩
def wordsL : List ByteArray := [⟨#[72, 82, 72, 46, 82, 82, 87, 82, 82, 82, 82, 82, 72, 72, 82]⟩, ⟨#[72, 72, 46, 46, 46, 46, 72, 46, 46, 46, 46, 46, 72, 72, 46]⟩,
  ⟨#[72, 87, 72, 87, 87, 87, 87, 87, 87, 87, 87, 87, 72, 72, 87]⟩, ⟨#[72, 46, 72, 72, 46, 46, 72, 46, 46, 46, 46, 46, 72, 72, 46]⟩, ⟨#[72, 46, 72, 70, 72, 72, 70, 46, 46, 46, 46, 46, 72, 72, 46]⟩,
  ⟨#[72, 46, 72, 70, 72, 46, 70, 46, 46, 46, 46, 46, 72, 72, 46]⟩, ⟨#[72, 46, 72, 70, 72, 46, 70, 46, 72, 46, 46, 46, 72, 72, 72]⟩, ⟨#[72, 46, 72, 70, 72, 46, 70, 46, 72, 46, 46, 46, 72, 72, 46]⟩,
  ⟨#[72, 46, 72, 70, 72, 46, 70, 46, 72, 46, 46, 46, 72, 72, 46]⟩, ⟨#[72, 46, 72, 70, 72, 46, 70, 72, 72, 72, 72, 72, 72, 72, 46]⟩]
def rowsL : List (Int × ByteArray) := [(1, wordsL.getD 0 ⟨#[]⟩), (2, wordsL.getD 1 ⟨#[]⟩), (3, wordsL.getD 2 ⟨#[]⟩), (4, wordsL.getD 3 ⟨#[]⟩), (5, wordsL.getD 4 ⟨#[]⟩), (6, wordsL.getD 5 ⟨#[]⟩), (7, wordsL.getD 6 ⟨#[]⟩), (8, wordsL.getD 7 ⟨#[]⟩), (9, wordsL.getD 8 ⟨#[]⟩), (10, wordsL.getD 9 ⟨#[]⟩)]
/-- the words of a state -/
def wordsOf (s : Int) : ByteArray := if 1 ≤ s ∧ s ≤ 10 then wordsL.getD (s - 1).toNat ⟨#[]⟩ else ⟨#[]⟩

def litL : Array Value := #[.int .i64 1, .string ⟨#[72, 82, 72, 46, 82, 82, 87, 82, 82, 82, 82, 82, 72, 72, 82]⟩, .int .i64 2, .string ⟨#[72, 72, 46, 46, 46, 46, 72, 46, 46, 46, 46, 46, 72, 72, 46]⟩, .int .i64 3, .string ⟨#[72, 87, 72, 87, 87, 87, 87, 87, 87, 87, 87, 87, 72, 72, 87]⟩,
  .int .i64 4, .string ⟨#[72, 46, 72, 72, 46, 46, 72, 46, 46, 46, 46, 46, 72, 72, 46]⟩, .int .i64 5, .string ⟨#[72, 46, 72, 70, 72, 72, 70, 46, 46, 46, 46, 46, 72, 72, 46]⟩, .int .i64 6, .string ⟨#[72, 46, 72, 70, 72, 46, 70, 46, 46, 46, 46, 46, 72, 72, 46]⟩,
  .int .i64 7, .string ⟨#[72, 46, 72, 70, 72, 46, 70, 46, 72, 46, 46, 46, 72, 72, 72]⟩, .int .i64 8, .string ⟨#[72, 46, 72, 70, 72, 46, 70, 46, 72, 46, 46, 46, 72, 72, 46]⟩, .int .i64 9, .string ⟨#[72, 46, 72, 70, 72, 46, 70, 46, 72, 46, 46, 46, 72, 72, 46]⟩,
  .int .i64 10, .string ⟨#[72, 46, 72, 70, 72, 46, 70, 72, 72, 72, 72, 72, 72, 72, 46]⟩]
theorem lit_at : ∀ i, i < 10 → litL[i * 2]? = some (.int .i64 (rowsL.getD i (0, ⟨#[]⟩)).1) ∧ litL[i * 2 + 1]? = some (.string (rowsL.getD i (0, ⟨#[]⟩)).2) := by
  intro i hi
  match i, hi with
  | 0, _ | 1, _ | 2, _ | 3, _ | 4, _ | 5, _ | 6, _ | 7, _ | 8, _ | 9, _ => exact ⟨rfl, rfl⟩
  | i + 10, h => exact absurd h (by omega)
theorem rows_wf : ∀ i, i < 10 → (Lit.int .i64 (rowsL.getD i (0, ⟨#[]⟩)).1).wf = true := by
  intro i hi
  match i, hi with
  | 0, _ | 1, _ | 2, _ | 3, _ | 4, _ | 5, _ | 6, _ | 7, _ | 8, _ | 9, _ => decide
  | i + 10, h => exact absurd h (by omega)
theorem table_lit (w : World) : Calls Tryd.prog 90 #[.slice (some ⟨w.heap.size, 0, none⟩) 10 10] (w.alloc (.cells litL 133))
    fun e w' => ∃ g, e = .returned (.map (some g)) ∧ w'.ownsMap Tryd.prog 3 rowR g 10 (mapD rowsL 10) ∧ w.heap.size ≤ g ∧ Below w.heap.size w w' := by
  have hb : Below w.heap.size w (w.alloc (.cells litL 133)) := (Below.refl _ _).alloc (Nat.le_refl _) _
  refine (table_any (w.alloc (.cells litL 133)) w.heap.size 10 rowsL (by simp) (by decide) (fun i hi => ?_) rows_wf).mono ?_
  · obtain ⟨h1, h2⟩ := lit_at i hi
    have hblk : (w.alloc (.cells litL 133)).heap[w.heap.size]? = some (.cells litL 133 (0, 0)) := (MapKept.heap_alloc w _).1
    exact ⟨(cell_of_row _ _ _ _ _ _ hblk).trans h1, (cell_of_row _ _ _ _ _ _ hblk).trans h2⟩
  · rintro e w' ⟨g, rfl, h1, h2, h3⟩
    have hs := hb.size
    exact ⟨g, rfl, h1, by omega, hb.trans (h3.mono hs)⟩

set_option maxRecDepth 100000 in
set_option maxHeartbeats 1000000 in
theorem units_any (w : World) :
    Calls Tryd.prog 82 #[] w fun e w' => ∃ g, e = .returned (.map (some g)) ∧ w'.ownsMap Tryd.prog 3 rowR g 10 (mapD rowsL 10) ∧ w.heap.size ≤ g ∧ Below w.heap.size w w' := by
  go_enter Tryd.func82, Tryd.ntmps82
  go_wp2_with fail
  refine (table_lit w).mono ?_; rintro e w1 ⟨g, rfl, h1, h2, h3⟩
  have H1 := Lib.hid h1
  have H3 := Lib.hid h3
  clear h1 h3
  go_wp2_with fail
  go_ret
  exact ⟨g, rfl, H1.out, h2, H3.out⟩

theorem map_lit : mapD rowsL 10 = .map [(.int .i64 1, rowD (1, wordsL.getD 0 ⟨#[]⟩)), (.int .i64 2, rowD (2, wordsL.getD 1 ⟨#[]⟩)), (.int .i64 3, rowD (3, wordsL.getD 2 ⟨#[]⟩)), (.int .i64 4, rowD (4, wordsL.getD 3 ⟨#[]⟩)), (.int .i64 5, rowD (5, wordsL.getD 4 ⟨#[]⟩)),
    (.int .i64 6, rowD (6, wordsL.getD 5 ⟨#[]⟩)), (.int .i64 7, rowD (7, wordsL.getD 6 ⟨#[]⟩)), (.int .i64 8, rowD (8, wordsL.getD 7 ⟨#[]⟩)), (.int .i64 9, rowD (9, wordsL.getD 8 ⟨#[]⟩)), (.int .i64 10, rowD (10, wordsL.getD 9 ⟨#[]⟩))] := by
  rfl
theorem map_at (s : Int) : ∃ a : Int, (mapD rowsL 10).atKey (.int .i64 s) (.agg [.lit (.int .i64 0), .lit (.string [])]) = .agg [.lit (.int .i64 a), .lit (.string (wordsOf s).data.toList)] := by
  rw [map_lit]
  by_cases h : 1 ≤ s ∧ s ≤ 10
  · rcases (show s = 1 ∨ s = 2 ∨ s = 3 ∨ s = 4 ∨ s = 5 ∨ s = 6 ∨ s = 7 ∨ s = 8 ∨ s = 9 ∨ s = 10 by omega) with rfl | rfl | rfl | rfl | rfl | rfl | rfl | rfl | rfl | rfl <;> exact ⟨_, rfl⟩
  · have h1 : ∀ j : Int, 1 ≤ j → j ≤ 10 → ((Lit.int .i64 j).sameKey (.int .i64 s)) = false := by
      intro j j1 j2
      have : j ≠ s := by omega
      simp [Lit.sameKey, this]
    refine ⟨0, ?_⟩
    have hw : wordsOf s = ⟨#[]⟩ := if_neg h
    rw [hw]
    simp [DataW.atKey, h1]

/-- what a letter of the table means -/
def codeOf (c : Nat) : Int := if c = 72 then 1 else if c = 87 then 2 else if c = 82 then 3 else if c = 70 then 4 else 0
def ofI (s k : Int) : Int := if k < 1 ∨ (wordsOf s).size < k then 0 else codeOf ((wordsOf s).data.getD (k - 1).toNat 0).toNat
theorem words_size (s : Int) : (wordsOf s).size = if 1 ≤ s ∧ s ≤ 10 then 15 else 0 := by
  unfold wordsOf
  split
  · rename_i h
    rcases (show s = 1 ∨ s = 2 ∨ s = 3 ∨ s = 4 ∨ s = 5 ∨ s = 6 ∨ s = 7 ∨ s = 8 ∨ s = 9 ∨ s = 10 by omega) with rfl | rfl | rfl | rfl | rfl | rfl | rfl | rfl | rfl | rfl <;> rfl
  · rfl

end Go.Proofs.YtkphompjahcjiaaDoor.Rules
