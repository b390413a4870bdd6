/-
  The set of all numbers of some spans.
-/
import Derived.Test.YtdnikjjcgoilfaaSpanJoin
import Derived.Test.YtdnikjjcgoilfaaShelf
namespace Go.Proofs.Ytdnikjjcgoilfaa.SpanCalls
open Go.RowKit SpanMath View Go.Sort Go.Shelf

def encSp (x : Sp) : List Value := [.int .i64 x.1, .int .i64 x.2]

theorem ltOf_cmp (x y : Sp) : ltOf (fun a b : Sp => cmpI a.1 b.1) x y = decide (x.1 < y.1) := by
  unfold ltOf cmpI
  by_cases h1 : x.1 < y.1
  · simp [h1]
  · by_cases h2 : y.1 < x.1 <;> simp [h1, h2]
theorem swo_cmp : SWO (ltOf fun a b : Sp => cmpI a.1 b.1) where
  irrefl x := by rw [ltOf_cmp]; simp
  trans x y z h1 h2 := by rw [ltOf_cmp] at *; simp at *; omega
  ntrans x y z h1 h2 := by rw [ltOf_cmp] at *; simp at *; omega
theorem cmpLays (blk off size : Nat) (w : World) : CmpLays Try.prog 32 #[] encSp 2 (fun a b : Sp => cmpI a.1 b.1) blk off size w :=
  fun _ _ _ _ x y => less_any x y _

theorem holds_of_own {w : World} {base g cap : Nat} {D : List Sp} (h : w.ownsRow base 56 2 (.slice (some ⟨g, 0, none⟩) D.length cap) D.length (encS D)) : HoldsK encSp 2 w g 0 D.toArray := by
  intro j hj
  rw [size_flatK, List.size_toArray] at hj
  refine ⟨?_, by rw [Nat.zero_add]; exact World.ownsRow.frozenAt h j⟩
  rw [get_flatK _ _ _ _ (by simpa using hj), Nat.zero_add, World.ownsRow.cellAt h j hj]
  have hat := encS_at D (j / 2) (by omega)
  have hd : D.toArray[j / 2]! = D.getD (j / 2) (0, 0) := by
    have hl : j / 2 < D.length := by omega
    simp [List.getD, hl, getElem!_pos]
  rw [hd]
  rcases Nat.mod_two_eq_zero_or_one j with hm | hm
  · rw [hm]
    have e : j = j / 2 * 2 := by omega
    rw [e, hat.1]
    simp [encSp]
  · rw [hm]
    have e : j = j / 2 * 2 + 1 := by omega
    rw [e, hat.2, show (j / 2 * 2 + 1) / 2 = j / 2 from by omega]
    simp [encSp]

theorem below_sorted {w : World} {base blk off m : Nat} {d : Array Sp} {os : Array Obj} (h : base ≤ blk) (hs : base ≤ w.heap.size) : Below base w (sortWorldK encSp 2 w blk off m d os) := by
  refine ⟨rfl, rfl, rfl, ?_, fun k hk => ?_⟩
  · simp [sortWorldK, grow, putRowK, putRow, mapBlock, Go.Sort.ahead]
  · show ((mapBlock (Sort.ahead w m) blk _).heap ++ os)[k]? = w.heap[k]?
    rw [Array.getElem?_append_left (by simp [mapBlock, Go.Sort.ahead]; omega)]
    simp only [mapBlock, Array.getElem?_modify]
    rw [if_neg (by omega)]
    rfl

theorem rdS_sorted {w : World} {blk m : Nat} {d0 d : Array Sp} {os : Array Obj} (hH : HoldsK encSp 2 w blk 0 d0) (hb : blk < w.heap.size) (hs : d.size = d0.size) :
    RdS (sortWorldK encSp 2 w blk 0 m d os) (some ⟨blk, 0, none⟩) d.size d.toList := by
  refine ⟨by simp, fun hn => ⟨blk, 0, rfl, ?_, fun i hi => ?_⟩⟩
  · have : w.heap.size ≤ (sortWorldK encSp 2 w blk 0 m d os).heap.size := by simp [sortWorldK, grow, putRowK, putRow, mapBlock, Go.Sort.ahead]
    omega
  · have h1 : HoldsK encSp 2 (sortWorldK encSp 2 w blk 0 m d os) blk 0 d :=
      holdsK_grow _ _ _ _ _ _ _ (by simpa [putRowK, putRow, mapBlock, Go.Sort.ahead] using hb) (holdsK_putRowK _ _ _ _ _ d0 d (holdsK_ahead _ _ _ _ _ _ _ hH) hs)
    have hd : d[i]! = d.toList.getD i (0, 0) := by simp [List.getD, hi, getElem!_pos]
    have c0 := (h1.cell (i := i) (c := 0) hi (by omega)).1
    have c1 := (h1.cell (i := i) (c := 1) hi (by omega)).1
    rw [hd] at c0 c1
    exact ⟨by simpa [encSp] using c0, by simpa [encSp] using c1⟩

theorem ins_none (a : Option Addr) (cap : Nat) (fv : Value) (w : World) :
    Calls Try.prog 47 #[.slice a 0 cap, .int .i64 0, .int .i64 0, fv] w fun e w' => e = .returned (.tuple #[]) ∧ w = w' := by
  go_enter Try.func47, Try.ntmps47
  go_wp2_with fail
  refine wp_loop_rounds 1 ?_
  rw [rounds_succ]
  go_wp2_with fail
  go_end0
  exact ⟨rfl, rfl⟩
theorem pdq_none (a : Option Addr) (cap : Nat) (lim : Int) (fv : Value) (w : World) :
    Calls Try.prog 44 #[.slice a 0 cap, .int .i64 0, .int .i64 0, .int .i64 lim, fv] w fun e w' => e = .returned (.tuple #[]) ∧ w = w' := by
  go_enter Try.func44, Try.ntmps44
  go_wp2_with fail
  refine wp_loop_rounds 1 ?_
  rw [rounds_succ]
  go_wp2_with (go_at_call 47; refine (ins_none _ _ _ _).mono ?_; rintro e w' ⟨rfl, rfl⟩)
  (try simp only [Exit.inBlock, Exit.then]); refine bodyPost_ret (results_none rfl _ _ _) rfl ?_
  exact ⟨rfl, rfl⟩
theorem sort_none (a : Option Addr) (cap : Nat) (fv : Value) (w : World) :
    Calls Try.prog 31 #[.slice a 0 cap, fv] w fun e w' => e = .returned (.tuple #[]) ∧ w = w' := by
  have hl : ∀ W, Calls Try.prog 45 #[.int .u64 0] W fun e w' => e = .returned (.int .i64 (Lib.bitLen 0 : Nat)) ∧ w' = W := fun W =>
    Any.bits_Len (SlLaysF0.n15.bits { Try.sortSp with }) 0 W (by omega) (by omega)
  go_enter Try.func31, Try.ntmps31
  go_wp2_with (first | (go_at_call 45; refine (hl _).mono ?_; rintro e w' ⟨rfl, rfl⟩) | (go_at_call 44; refine (pdq_none _ _ _ _ _).mono ?_; rintro e w' ⟨rfl, rfl⟩))
  go_end0
  exact ⟨rfl, rfl⟩

set_option maxRecDepth 100000 in
theorem sort_any (base : Nat) (a : Option Addr) (n cap : Nat) (D : List Sp) (w : World) (h : OwnS w base (.slice a n cap) D) (hn : D.length ≤ 100000) (hbs : base ≤ w.heap.size) :
    Calls Try.prog 31 #[.slice a n cap, .func (.func 32) #[] #[]] w fun e w' => e = .returned (.tuple #[]) ∧ ∃ D', D'.Perm D ∧ SortedBy D' ∧ RdS w' a n D' ∧ Below base w w' := by
  obtain ⟨a', cap', e, hf, hc⟩ := own_form h
  cases e
  rcases Nat.eq_zero_or_pos D.length with h0 | h0
  · have hD : D = [] := List.eq_nil_of_length_eq_zero h0
    subst hD
    refine (sort_none a cap _ w).mono ?_
    rintro e w' ⟨rfl, rfl⟩
    exact ⟨rfl, [], List.Perm.refl _, List.Pairwise.nil, ⟨rfl, fun h => absurd h (by simp)⟩, Below.refl _ _⟩
  · obtain ⟨g, rfl, hg1, hg2, _⟩ := hc h0
    have hH := holds_of_own h
    have eg : ∀ args w, (callFunc 32 args).run Try.prog w = .ok (.enter 32 args) w := enters_of Try.func32 (by kernel_rfl) rfl
    have hcon := AnyQ.slices_SortFunc Try.sortSp 2 Try.isAgg56 Try.sizeOf56 encSp (fun _ => rfl) (fun x v hv => by simp [encSp] at hv; rcases hv with rfl | rfl <;> rfl) (fun a b : Sp => cmpI a.1 b.1) swo_cmp 32 #[] g 0 cap D.toArray w eg (cmpLays g 0 _ w) hH hg2 (by simp; omega)
    change Calls Try.prog 31 _ _ _ at hcon
    refine hcon.mono ?_
    rintro e w' ⟨rfl, d', m, os, hp, hs, rfl⟩
    obtain ⟨hp1, _, hp3⟩ := hp
    have hsz : d'.size = D.length := by simpa using hp1
    refine ⟨rfl, d'.toList, ?_, ?_, ?_, below_sorted hg1 hbs⟩
    · have h3 := hp3
      rw [Array.toList_extract, Array.toList_extract] at h3
      have e1 : List.take D.length d'.toList = d'.toList := List.take_of_length_le (by simp [hsz])
      simpa [List.extract_eq_take_drop, e1] using h3
    · unfold SortedBy
      rw [List.pairwise_iff_getElem]
      intro i j hi hj hij
      have hij' := hs i j (Nat.zero_le _) hij (by simpa [hsz] using hj)
      rw [ltOf_cmp] at hij'
      simp only [Array.length_toList] at hi hj
      rw [getElem!_pos d' j hj, getElem!_pos d' i hi] at hij'
      simpa using hij'
    · have := rdS_sorted (m := m) (os := os) hH hg2 (d := d') hp1
      rw [hsz] at this
      exact this

theorem inSp_perm {D D' : List Sp} (h : D'.Perm D) (n : Int) : inSp D' n ↔ inSp D n := by
  unfold inSp
  constructor
  · rintro ⟨x, hx, hh⟩; exact ⟨x, h.mem_iff.1 hx, hh⟩
  · rintro ⟨x, hx, hh⟩; exact ⟨x, h.mem_iff.2 hx, hh⟩
def joinTake (D : List Sp) (k : Nat) : List Sp := (D.take k).foldl join []
theorem joinTake_succ {D : List Sp} {k : Nat} {y : Sp} (h : k < D.length) (hy : D.getD k (0, 0) = y) : joinTake D (k + 1) = join (joinTake D k) y := by
  unfold joinTake
  rw [take_succ' D (0, 0) k h, List.foldl_append, hy]
  rfl
theorem joinTake_len (D : List Sp) : ∀ k, (joinTake D k).length ≤ k := by
  have key : ∀ (l s : List Sp), (l.foldl join s).length ≤ s.length + l.length := by
    intro l
    induction l with
    | nil => intro s; simp
    | cons x l ih =>
      intro s
      have := ih (join s x)
      have h2 := join_len s x
      simp only [List.foldl_cons, List.length_cons]
      omega
  intro k
  have := key (D.take k) []
  have h2 : (D.take k).length ≤ k := List.length_take_le _ _
  simp only [List.length_nil, Nat.zero_add] at this
  exact Nat.le_trans this h2

/-- where the spans of D may lie -/
def Near (D : List Sp) : Prop := D.length ≤ 10000 ∧ ∀ x ∈ D, -1099511627776 ≤ x.1 ∧ x.1 ≤ 1099511627776 ∧ -1099511627776 ≤ x.2 ∧ x.2 ≤ 1099511627777

theorem near_of {D : List Sp} (hl : D.length ≤ 10000) (h : ∀ x ∈ D, -400 ≤ x.1 ∧ x.1 ≤ 400 ∧ -400 ≤ x.2 ∧ x.2 ≤ 400) : Near D :=
  ⟨hl, fun x hx => by have := h x hx; omega⟩

set_option maxRecDepth 100000 in
set_option maxHeartbeats 400000 in
theorem of_any (a : Option Addr) (n cap : Nat) (D S : List Sp) (w : World) (h : RdS w a n D) (hf : Fit a n cap) (hd : Near D) (hS : IsSet S (inSp D)) :
    Calls Try.prog 12 #[.slice a n cap] w fun e w' => ∃ v, e = .returned v ∧ OwnS w' w.heap.size v S ∧ Below w.heap.size w w' := by
  have HL := Lib.hid h
  have HF := Lib.hid hf
  have HD := Lib.hid hd
  have HS := Lib.hid hS
  have hn0 : n ≤ 10000 := by rw [h.1]; exact hd.1
  clear h hf hd hS
  go_enter Try.func12, Try.ntmps12
  go_wp2_with fail
  refine (clone_any a n cap D _ HL.out HF.out (by omega)).mono ?_; rintro e w1 ⟨v, rfl, hown, hb1⟩
  obtain ⟨a1, n1, cap1, rfl, hf1, hr1⟩ := hown.form
  have hn1 : n1 ≤ 10000 := by rw [hr1.1]; exact HD.out.1
  clear hf1 hr1
  have hs1 := hb1.size
  go_wp2_with fail
  refine (sort_any w.heap.size a1 n1 cap1 D _ hown (by have := HD.out.1; omega) hs1).mono ?_; rintro e w2 ⟨rfl, D', hperm, hsorted, hr2, hb2⟩
  have HP := Lib.hid hperm
  have HSO := Lib.hid hsorted
  have HR := Lib.hid hr2
  have hb3 := hb1.trans hb2
  clear hown hb1 hb2 hperm hsorted hr2 hs1
  go_wp2_with fail
  go_loopw [4, 13] (fun v i wr => ∃ k : Nat, k ≤ n1 ∧ i = .int .i64 k ∧ OwnS wr w2.heap.size v (joinTake D' k) ∧ Below w2.heap.size w2 wr) (fun _ i _ => n1 - (intOf i).toNat)
  case atStart => exact ⟨0, Nat.zero_le _, rfl, OwnS.nil, Below.refl _ _⟩
  case round =>
    obtain ⟨k, hk, rfl, hown, hb⟩ := hrel
    by_cases hlt : k < n1
    · obtain ⟨b, off, rfl, hbl, hc1, hc2⟩ := (HR.out.below hb).at_ hlt
      have hl : k < D'.length := by have := HR.out.1; omega
      obtain ⟨y, hy⟩ : ∃ y, D'.getD k (0, 0) = y := ⟨_, rfl⟩
      have hmem : y ∈ D := HP.out.mem_iff.1 (by rw [← hy]; simp [List.getD, hl])
      have hyb := HD.out.2 y hmem
      rw [hy] at hc1 hc2
      have HJ := Lib.hid (joinTake_succ hl hy)
      have hlen := joinTake_len D' k
      clear hy hmem
      obtain ⟨y1, y2⟩ := y
      simp only at hyb hc1 hc2
      obtain ⟨b1, b2, b3, b4⟩ := hyb
      have hsz := hb.size
      have hown' := hown.below ((Below.refl _ wr).alloc (Nat.le_refl _) (.cells #[.int .i64 y1, .int .i64 y2] 56))
      have hb' := hb.alloc hsz (.cells #[.int .i64 y1, .int .i64 y2] 56)
      clear hown hb
      go_wp2_with fail
      refine (near_any y1 y2 _ b1 b2 b3 b4).mono ?_; rintro e w3 ⟨rfl, hb3'⟩
      have hb4 := hb'.trans (hb3'.mono (by simp; omega))
      have hown3 := hown'.below hb3'
      have hsz4 := hb4.size
      clear hb3' hown' hb'
      go_wp2_with fail
      refine (join_any w2.heap.size _ _ y1 y2 _ hsz4 hown3 (by omega)).mono ?_; rintro e w5 ⟨v5, rfl, hown5, _, hb5⟩
      clear hown3
      go_wp2_with fail
      go_roundw
      case rel => exact ⟨k + 1, by omega, by go_num, by rw [HJ.out]; exact hown5, hb4.trans hb5⟩
      case measure => simp [intOf]; omega
    · have hfin : joinTake D' k = S := by
        have hkn : D'.take k = D' := List.take_of_length_le (by have := HR.out.1; omega)
        unfold joinTake
        rw [hkn]
        have hj := fold_join D' [] HSO.out norm_nil (by simp)
        refine IsSet.ext (p := inSp D) ⟨hj.1, fun z => ?_⟩ HS.out
        rw [hj.2, inSp_perm HP.out]
        simp [nums_nil]
      rw [hfin] at hown
      have hsz := hb3.size
      clear hfin
      go_wp2_with fail
      go_ret
      exact ⟨_, rfl, hown.lower hsz, hb3.trans (hb.mono hsz)⟩
end Go.Proofs.Ytdnikjjcgoilfaa.SpanCalls
