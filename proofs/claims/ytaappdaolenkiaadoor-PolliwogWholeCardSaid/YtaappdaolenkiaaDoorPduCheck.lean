/-
  Units: which may be.
-/
import Derived.Test.YtaappdaolenkiaaDoorPduTab
import Derived.WalkLawsBesides
import Derived.BigQuiet
import Derived.Deep.RegionHeld3
import Derived.Handy
import Derived.IntWalk
import Derived.Lib.SmallJoins
namespace Go.Proofs.YtaappdaolenkiaaDoor.Pdu
open Go.ChangeShapes Go.WideShapes Go.RowKit

theorem ret_bool {a b : Bool} (h : a = b) : Ending.returned (.bool a) = .returned (.bool b) := by rw [h]
theorem ret_int {k : IntKind} {a b : Int} (h : a = b) : Ending.returned (.int k a) = .returned (.int k b) := by rw [h]

def knownB (kind : Int) : Bool := decide (1 ≤ kind ∧ kind ≤ 15)
theorem known_any (kind : Int) (w : World) :
    Calls Tryd.prog 21 #[.int .i64 kind] w fun e w' => e = .returned (.bool (knownB kind)) ∧ w' = w := by
  go_enter Tryd.func21, Tryd.ntmps21
  go_wp2
  all_goals go_ret
  all_goals exact ⟨ret_bool (by unfold knownB; simp; omega), rfl⟩

/-- a unit -/
structure U where
  kind : Int
  sq : Int
  n : Int
  ps : Int
  mr : Int
  list : List Int
  self : Bool
  data : ByteArray

/-- a unit's value, its List apart -/
def U.val (k : IntKind) (u : U) (lv : Value) : Value := .agg #[.int .i64 u.kind, .int .i64 u.sq, .int k u.n, .int k u.ps, .int k u.mr, lv, .bool u.self, .string u.data]
def Form.val (f : Form) : Value := .agg #[.int .i64 f.sq, .int .u32 f.n, .int .u32 f.ps, .int .u32 f.mr, .int .i64 f.few, .int .i64 f.long, .bool f.self, .int .i64 f.data]

def fitsP (f : Form) (u : U) : Prop := 0 ≤ u.sq ∧ u.sq ≤ f.sq ∧ u.n ≤ f.n ∧ u.ps ≤ f.ps ∧ u.mr ≤ f.mr ∧ (f.self = true ∨ u.self = false) ∧ (u.data.size : Int) ≤ f.data
instance (f : Form) (u : U) : Decidable (fitsP f u) := by unfold fitsP; infer_instance

theorem fits_any (f1 f2 f3 f4 f5 f6 f8 : Int) (f7 : Bool) (kind sq n ps mr : Int) (lv : Value) (self : Bool) (data : ByteArray) (w : World) :
    Calls Tryd.prog 22 #[.agg #[.int .i64 f1, .int .u32 f2, .int .u32 f3, .int .u32 f4, .int .i64 f5, .int .i64 f6, .bool f7, .int .i64 f8], .agg #[.int .i64 kind, .int .i64 sq, .int .u32 n, .int .u32 ps, .int .u32 mr, lv, .bool self, .string data]] w
      fun e w' => e = .returned (.bool (decide (0 ≤ sq ∧ sq ≤ f1 ∧ n ≤ f2 ∧ ps ≤ f3 ∧ mr ≤ f4 ∧ (f7 = true ∨ self = false) ∧ (data.size : Int) ≤ f8))) ∧ Below w.heap.size w w' := by
  go_enter Tryd.func22, Tryd.ntmps22
  go_wp2
  all_goals go_ret
  all_goals refine ⟨ret_bool ?_, ((Below.refl _ _).alloc (Nat.le_refl _) _).alloc (by simp) _⟩
  all_goals (cases f7 <;> cases self <;> (rw [Bool.eq_iff_iff]; simp only [Bool.and_eq_true, Bool.or_eq_true, decide_eq_true_iff, Bool.not_eq_true', reduceCtorEq, Bool.false_eq_true, or_true, or_false, true_and, false_iff, and_false, false_and, not_false_eq_true] at *; first | done | omega | (constructor <;> intro h0 <;> omega) | simp_all))

/-- has a list a number of more than 24 bits -/
def anyBig (l : List Int) : Bool := l.any fun x => decide (16777215 < x)
theorem big_any (x : Int) (w : World) :
    Calls Tryd.prog 35 #[.int .u32 x] w fun e w' => e = .returned (.bool (decide (16777215 < x))) ∧ w' = w := by
  go_enter Tryd.func35, Tryd.ntmps35
  go_wp2
  go_ret
  exact ⟨rfl, rfl⟩

/-- numbers that lie one behind the other -/
def Nums (k : IntKind) (w : World) (v : Value) (l : List Int) : Prop :=
  ∃ a cap, v = .slice a l.length cap ∧ l.length ≤ 140737488351232 ∧ (∀ z ∈ l, (Lit.int k z).wf = true) ∧
    (l = [] ∨ ∃ b off, a = some ⟨b, off, none⟩ ∧ b < w.heap.size ∧ ∀ i, i < l.length → w.cell? ⟨b, off + i, none⟩ = some (.int k (l.getD i 0)))
theorem Nums.below {k : IntKind} {w w' : World} {v : Value} {l : List Int} {b : Nat} (h : Nums k w v l) (hb : Below b w w') (hb0 : w.heap.size ≤ b) : Nums k w' v l := by
  obtain ⟨a, cap, rfl, h1, h2, h3⟩ := h
  refine ⟨a, cap, rfl, h1, h2, ?_⟩
  rcases h3 with h3 | ⟨b, off, rfl, hlt, hc⟩
  · exact .inl h3
  · exact .inr ⟨b, off, rfl, Nat.lt_of_lt_of_le hlt hb.size, fun i hi => ((hb.mono hb0).cell (p := ⟨b, off + i, none⟩) hlt).trans (hc i hi)⟩
theorem Nums.alloc {k : IntKind} {w : World} {v : Value} {l : List Int} (h : Nums k w v l) (o : Obj) : Nums k (w.alloc o) v l := h.below ((Below.refl w.heap.size w).alloc (Nat.le_refl _) o) (Nat.le_refl _)
theorem Nums.drewN {k : IntKind} {w : World} {v : Value} {l : List Int} (h : Nums k w v l) (n : Nat) : Nums k (w.drewN n) v l := h.below (b := w.heap.size) ⟨rfl, rfl, rfl, Nat.le_refl _, fun _ _ => rfl⟩ (Nat.le_refl _)
theorem Nums.one {k : IntKind} {w : World} {v : Value} {l : List Int} (h : Nums k w v l) : v.oneCell' = true := by
  obtain ⟨a, cap, rfl, _⟩ := h; rfl

theorem any_take (l : List Int) (p : Int → Bool) (k : Nat) (h : k < l.length) : (l.take (k + 1)).any p = ((l.take k).any p || p (l.getD k 0)) := by
  rw [List.take_succ_eq_append_getElem h, List.any_append]
  simp [List.getD, h]

theorem indexFunc_none (w : World) (cap : Nat) (a : Option Addr) :
    Calls Tryd.prog 41 #[.slice a 0 cap, .func (.func 35) #[] #[]] w fun e w' => e = .returned (.int .i64 (-1)) ∧ w' = w := by
  go_enter Tryd.func41, Tryd.ntmps41
  go_wp2
  refine wp_loop_rounds 1 ?_
  rw [rounds_succ]
  go_wp2_with fail
  go_ret
  exact ⟨rfl, rfl⟩

theorem indexFunc_some (l : List Int) (w : World) (b off cap : Nat) (hl : l.length ≤ 140737488351232) (hc : ∀ i, i < l.length → w.cell? ⟨b, off + i, none⟩ = some (.int .u32 (l.getD i 0))) :
    Calls Tryd.prog 41 #[.slice (some ⟨b, off, none⟩) l.length cap, .func (.func 35) #[] #[]] w fun e w' => ∃ i : Int, e = .returned (.int .i64 i) ∧ (decide (0 ≤ i) = anyBig l) ∧ w' = w := by
  have HC := Lib.hid hc
  clear hc
  obtain ⟨n, hn⟩ : ∃ n, l.length = n := ⟨_, rfl⟩
  rw [hn] at hl HC ⊢
  have HN := Lib.hid hn
  clear hn
  go_enter Tryd.func41, Tryd.ntmps41
  go_wp2_with fail
  go_loop [8] (fun i => ∃ k : Nat, k ≤ n ∧ i = .int .i64 k ∧ Hid (anyBig (l.take k) = false)) (fun i => n - (intOf i).toNat)
  case atStart => exact ⟨0, by omega, rfl, Lib.hid rfl⟩
  case round =>
    obtain ⟨k, hk, rfl, HA⟩ := hrel
    by_cases hlt : k < n
    · have hck := HC.out k hlt
      obtain ⟨x, hx⟩ : ∃ x, l.getD k 0 = x := ⟨_, rfl⟩
      have hT := any_take l (fun x => decide (16777215 < x)) k (by rw [HN.out]; exact hlt)
      rw [hx] at hck hT
      have HT := Lib.hid hT
      clear hT hx
      go_wp2_with fail
      refine (big_any _ _).mono ?_; rintro e w' ⟨rfl, rfl⟩
      go_wp2_with fail
      · have hbig : 16777215 < x := by assumption
        go_ret
        refine ⟨_, rfl, ?_, rfl⟩
        rw [decide_eq_true (by omega)]
        have h1 : anyBig (l.take (k + 1)) = true := by
          unfold anyBig; rw [HT.out, decide_eq_true hbig, Bool.or_true]
        symm
        unfold anyBig at h1 ⊢
        rw [List.any_eq_true] at h1 ⊢
        obtain ⟨y, hy, hy2⟩ := h1
        exact ⟨y, List.mem_of_mem_take hy, hy2⟩
      · have hbig : x ≤ 16777215 := by first | assumption | omega
        go_round
        case rel =>
          refine ⟨k + 1, by omega, by go_num, Lib.hid ?_⟩
          have := HA.out
          unfold anyBig at this ⊢
          rw [HT.out, this, decide_eq_false (by omega)]; rfl
        case measure => simp [intOf]; omega
    · obtain rfl : k = n := by omega
      go_wp2_with fail
      go_ret
      refine ⟨_, rfl, ?_, rfl⟩
      have := HA.out
      rw [List.take_of_length_le (by rw [HN.out]; exact Nat.le_refl _)] at this
      rw [this]; rfl

theorem containsFunc_any (v : Value) (l : List Int) (w : World) (hv : Nums .u32 w v l) :
    Calls Tryd.prog 34 #[v, .func (.func 35) #[] #[]] w fun e w' => e = .returned (.bool (anyBig l)) ∧ w' = w := by
  obtain ⟨a, cap, rfl, hl, _, h3⟩ := hv
  rcases h3 with rfl | ⟨b, off, rfl, _, hc⟩
  · go_enter Tryd.func34, Tryd.ntmps34
    go_wp2_with fail
    refine (indexFunc_none _ _ _).mono ?_; rintro e w' ⟨rfl, rfl⟩
    go_wp2_with fail
    go_ret
    exact ⟨rfl, rfl⟩
  · go_enter Tryd.func34, Tryd.ntmps34
    go_wp2_with fail
    refine (indexFunc_some l _ b off cap hl hc).mono ?_; rintro e w' ⟨i, rfl, hi, rfl⟩
    have HI := Lib.hid hi
    clear hi
    go_wp2_with fail
    go_ret
    exact ⟨ret_bool HI.out, rfl⟩

theorem fitsList_any (f1 f2 f3 f4 f5 f6 f8 : Int) (f7 : Bool) (v : Value) (l : List Int) (w : World) (hv : Nums .u32 w v l) :
    Calls Tryd.prog 23 #[.agg #[.int .i64 f1, .int .u32 f2, .int .u32 f3, .int .u32 f4, .int .i64 f5, .int .i64 f6, .bool f7, .int .i64 f8], v] w
      fun e w' => e = .returned (.bool (decide (f5 ≤ (l.length : Int) ∧ (l.length : Int) ≤ f6 ∧ (l.length : Int) % 2 = 0) && !anyBig l)) ∧ Below w.heap.size w w' := by
  have hv2 := Lib.hid (hv.alloc (.cells #[.int .i64 f1, .int .u32 f2, .int .u32 f3, .int .u32 f4, .int .i64 f5, .int .i64 f6, .bool f7, .int .i64 f8] 63))
  obtain ⟨a, cap, rfl, hl, _, _⟩ := hv
  go_enter Tryd.func23, Tryd.ntmps23
  go_wp2_with fail
  · refine (containsFunc_any _ l _ hv2.out).mono ?_; rintro e w' ⟨rfl, rfl⟩
    go_wp2_with fail
    go_ret
    refine ⟨ret_bool ?_, (Below.refl _ _).alloc (Nat.le_refl _) _⟩
    rw [decide_eq_true (by omega), Bool.true_and]
  all_goals (
    go_ret
    refine ⟨ret_bool ?_, (Below.refl _ _).alloc (Nat.le_refl _) _⟩
    first
      | (rw [decide_eq_false (by omega)]; rfl)
      | (have h2 : ¬ ((l.length : Int) % 2 = 0) := by simp_all
         rw [decide_eq_false (by omega)]; rfl))

/-- which units may be: the error's number -/
def checkU (u : U) : Int :=
  if knownB u.kind = false then 10
  else if (0 < (formOf u.kind.toNat).data ∧ (formOf u.kind.toNat).data < (u.data.size : Int)) ∨ 128 < (u.list.length : Int) then 6
  else if fitsP (formOf u.kind.toNat) u ∧ (formOf u.kind.toNat).few ≤ (u.list.length : Int) ∧ (u.list.length : Int) ≤ (formOf u.kind.toNat).long ∧ (u.list.length : Int) % 2 = 0 ∧ anyBig u.list = false then 0
  else 1

theorem check_none (u : U) (lv : Value) (w : World) (hv : Nums .u32 w lv u.list) (hk : knownB u.kind = false) :
    Calls Tryd.prog 9 #[u.val .u32 lv] w fun e w' => e = .returned (.int .i64 (checkU u)) ∧ Below w.heap.size w w' := by
  have : checkU u = 10 := by unfold checkU; rw [if_pos hk]
  rw [this]
  obtain ⟨a, cap, rfl, hl, _, _⟩ := hv
  unfold U.val
  go_enter Tryd.func9, Tryd.ntmps9
  go_wp2_with fail
  refine (known_any _ _).mono ?_; rintro e w' ⟨rfl, rfl⟩
  rw [hk]
  go_wp2_with fail
  go_ret
  exact ⟨rfl, (Below.refl _ _).alloc (Nat.le_refl _) _⟩

theorem list_yes {f5 f6 : Int} {l : List Int} (h : (decide (f5 ≤ (l.length : Int) ∧ (l.length : Int) ≤ f6 ∧ (l.length : Int) % 2 = 0) && !anyBig l) = true) : f5 ≤ (l.length : Int) ∧ (l.length : Int) ≤ f6 ∧ (l.length : Int) % 2 = 0 ∧ anyBig l = false := by
  simp only [Bool.and_eq_true, decide_eq_true_iff, Bool.not_eq_true'] at h
  exact ⟨h.1.1, h.1.2.1, h.1.2.2, h.2⟩
theorem list_no {f5 f6 : Int} {l : List Int} {p : Prop} (h : (decide (f5 ≤ (l.length : Int) ∧ (l.length : Int) ≤ f6 ∧ (l.length : Int) % 2 = 0) && !anyBig l) = false) : ¬ (p ∧ f5 ≤ (l.length : Int) ∧ (l.length : Int) ≤ f6 ∧ (l.length : Int) % 2 = 0 ∧ anyBig l = false) := by
  rintro ⟨_, h1, h2, h3, h4⟩
  rw [decide_eq_true ⟨h1, h2, h3⟩, h4] at h
  cases h

theorem check_some (u : U) (k : Nat) (lv : Value) (w : World) (hF : Forms w) (hv : Nums .u32 w lv u.list) (hku : u.kind = (k : Int)) (hk1 : 1 ≤ k) (hk2 : k ≤ 15) :
    Calls Tryd.prog 9 #[u.val .u32 lv] w fun e w' => e = .returned (.int .i64 (checkU u)) ∧ Below w.heap.size w w' := by
  have hkb : knownB u.kind = true := by unfold knownB; rw [decide_eq_true_iff]; omega
  have hC : checkU u = if (0 < (formOf k).data ∧ (formOf k).data < (u.data.size : Int)) ∨ 128 < (u.list.length : Int) then 6
      else if fitsP (formOf k) u ∧ (formOf k).few ≤ (u.list.length : Int) ∧ (u.list.length : Int) ≤ (formOf k).long ∧ (u.list.length : Int) % 2 = 0 ∧ anyBig u.list = false then 0 else 1 := by
    unfold checkU
    rw [hkb, hku, Int.toNat_natCast]; simp
  have HC := Lib.hid hC
  clear hC
  have hb := formOf_bounds k
  have hR := fun w' (h : Forms w') => h.row k (by omega)
  obtain ⟨⟨f1, f2, f3, f4, f5, f6, f7, f8⟩, hf⟩ : ∃ f, formOf k = f := ⟨_, rfl⟩
  rw [hf] at HC hR hb
  simp only at HC hR hb
  have HR := Lib.hid hR
  clear hR hf
  obtain ⟨kind, sq, n, ps, mr, list, self, data⟩ := u
  simp only [U.val] at *
  subst hku
  have hvL := Lib.hid hv
  obtain ⟨a, cap, rfl, hl, _, _⟩ := hv
  have hk0 : (k : Int) < 16 := by omega
  have hF1 := Lib.hid (hF.alloc (.cells #[.int .i64 (k : Int), .int .i64 sq, .int .u32 n, .int .u32 ps, .int .u32 mr, .slice a list.length cap, .bool self, .string data] 32))
  obtain ⟨c0, c1, c2, c3, c4, c5, c6, c7⟩ := HR.out _ hF1.out
  go_enter Tryd.func9, Tryd.ntmps9
  go_wp2_with fail
  refine (known_any _ _).mono ?_; rintro e w' ⟨rfl, rfl⟩
  rw [hkb]
  go_wp2_with fail
  all_goals first
    | (go_ret
       refine ⟨ret_int ?_, ((Below.refl _ _).alloc (Nat.le_refl _) _).alloc (by simp) _⟩
       rw [HC.out, if_pos (by omega)])
    | (refine (fits_any _ _ _ _ _ _ _ _ _ _ _ _ _ _ _ _ _).mono ?_
       rintro e w2 ⟨rfl, hb2⟩
       have hg1 : w2.heap[w.heap.size]? = some (.cells #[.int .i64 (k : Int), .int .i64 sq, .int .u32 n, .int .u32 ps, .int .u32 mr, .slice a list.length cap, .bool self, .string data] 32 (0, 0)) := (hb2.block _ (by simp; omega)).trans (heap_alloc2_old w _ _)
       have hg2 : w2.heap[w.heap.size + 1]? = some (.cells #[.int .i64 f1, .int .u32 f2, .int .u32 f3, .int .u32 f4, .int .i64 f5, .int .i64 f6, .bool f7, .int .i64 f8] 63 (0, 0)) := (hb2.block _ (by simp)).trans (heap_alloc2_new w _ _)
       have hv2 : Nums .u32 w2 (.slice a list.length cap) list := (hvL.out.alloc _ |>.alloc _).below hb2 (Nat.le_refl _)
       have hv2 := Lib.hid hv2
       have hb2' : Below w.heap.size w w2 := (((Below.refl w.heap.size w).alloc (Nat.le_refl _) _).alloc (by simp) _).trans (hb2.mono (by simp; omega))
       have hs2 := hb2'.size
       have p5 : w2.cell? ⟨w.heap.size, 5, none⟩ = some (.slice a list.length cap) := Go.Joins.cell_of_block hg1 5
       have q0 : w2.cell? ⟨w.heap.size + 1, 0, none⟩ = some (.int .i64 f1) := Go.Joins.cell_of_block hg2 0
       have q1 : w2.cell? ⟨w.heap.size + 1, 1, none⟩ = some (.int .u32 f2) := Go.Joins.cell_of_block hg2 1
       have q2 : w2.cell? ⟨w.heap.size + 1, 2, none⟩ = some (.int .u32 f3) := Go.Joins.cell_of_block hg2 2
       have q3 : w2.cell? ⟨w.heap.size + 1, 3, none⟩ = some (.int .u32 f4) := Go.Joins.cell_of_block hg2 3
       have q4 : w2.cell? ⟨w.heap.size + 1, 4, none⟩ = some (.int .i64 f5) := Go.Joins.cell_of_block hg2 4
       have q5 : w2.cell? ⟨w.heap.size + 1, 5, none⟩ = some (.int .i64 f6) := Go.Joins.cell_of_block hg2 5
       have q6 : w2.cell? ⟨w.heap.size + 1, 6, none⟩ = some (.bool f7) := Go.Joins.cell_of_block hg2 6
       have q7 : w2.cell? ⟨w.heap.size + 1, 7, none⟩ = some (.int .i64 f8) := Go.Joins.cell_of_block hg2 7
       clear hg1 hg2 hb2 c0 c1 c2 c3 c4 c5 c6 c7 hF1 hk0
       have hnb : ¬ (0 < f8 ∧ f8 < (data.size : Int) ∨ 128 < (list.length : Int)) := by omega
       have hC := HC.out
       rw [if_neg hnb] at hC
       have HC2 := Lib.hid hC
       clear hC
       obtain ⟨z, hz⟩ : ∃ z, decide (0 ≤ sq ∧ sq ≤ f1 ∧ n ≤ f2 ∧ ps ≤ f3 ∧ mr ≤ f4 ∧ (f7 = true ∨ self = false) ∧ (data.size : Int) ≤ f8) = z := ⟨_, rfl⟩
       rw [hz]
       have HZ := Lib.hid hz
       clear hz
       cases z with
       | false =>
         have hno := of_decide_eq_false HZ.out
         go_wp2_with fail
         go_ret
         refine ⟨ret_int ?_, hb2'⟩
         rw [HC2.out, if_neg (fun h => hno h.1)]
       | true =>
         have hyes := of_decide_eq_true HZ.out
         go_wp2_with fail
         refine (fitsList_any _ _ _ _ _ _ _ _ _ list _ hv2.out).mono ?_
         rintro e w3 ⟨rfl, hb3⟩
         have hb3' := hb2'.trans (hb3.mono hs2)
         obtain ⟨y, hy⟩ : ∃ y, (decide (f5 ≤ (list.length : Int) ∧ (list.length : Int) ≤ f6 ∧ (list.length : Int) % 2 = 0) && !anyBig list) = y := ⟨_, rfl⟩
         rw [hy]
         have HY := Lib.hid hy
         clear hy
         cases y with
         | false =>
           go_wp2_with fail
           go_ret
           refine ⟨ret_int ?_, hb3'⟩
           rw [HC2.out, if_neg (list_no HY.out)]
         | true =>
           go_wp2_with fail
           go_ret
           refine ⟨ret_int ?_, hb3'⟩
           rw [HC2.out, if_pos ⟨hyes, list_yes HY.out⟩])

theorem check_any (u : U) (lv : Value) (w : World) (hF : Forms w) (hv : Nums .u32 w lv u.list) :
    Calls Tryd.prog 9 #[u.val .u32 lv] w fun e w' => e = .returned (.int .i64 (checkU u)) ∧ Below w.heap.size w w' := by
  cases hk : knownB u.kind with
  | false => exact check_none u lv w hv hk
  | true =>
    have h := of_decide_eq_true hk
    exact check_some u u.kind.toNat lv w hF hv (by omega) (by omega) (by omega)
end Go.Proofs.YtaappdaolenkiaaDoor.Pdu
