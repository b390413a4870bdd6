/-
  The pace: the calls of an end, and what each makes of the timers.
-/
import Derived.Test.YtlfjndjbfbejkaaPace1
import Derived.BigQuiet
namespace Go.Proofs.Ytlfjndjbfbejkaa.Pace
open Go.RowKit View Bank

theorem rd_lit (w : World) (M : List Int) (cs : Array Value) (T : TypeId) (hc : cs = (View.encI M).toArray) (g : Nat) (hg : g = w.heap.size) : RdI (w.alloc (.cells cs T)) (some ⟨g, 0, none⟩) M.length M := by
  subst hc; subst hg
  refine ⟨rfl, fun _ => ⟨_, 0, rfl, by simp, fun i hi => ?_⟩⟩
  have h1 := cell_of_row (w.alloc (.cells (View.encI M).toArray T)) w.heap.size (0 + i) (View.encI M).toArray T (0, 0) (heap_alloc_new w _)
  rw [h1]
  simp [View.encI, List.getD, hi]
def listenL (K L : List Nat) : List Nat := if 0 < L.getD 3 0 then L else runL K L [3]
def beginL (K L : List Nat) : List Nat := runL K (haltL L [2, 4]) [1, 3]
def endL (L : List Nat) : List Nat := haltL L [1, 2, 3, 4]
def againL (K L : List Nat) : List Nat := runL K L [0]
def enoughL (L : List Nat) : List Nat := haltL L [0]
def busyL (K L : List Nat) : List Nat := if 0 < L.getD 2 0 ∨ 0 < L.getD 4 0 then listenL K (runL K (haltL L [2, 4]) [1]) else L
def polledL (K L : List Nat) (idle : Bool) : List Nat := listenL K (runL K (haltL L [1, 2, 4]) [if idle then 2 else 1])
def answeredL (K L : List Nat) (idle : Bool) : List Nat := if idle = true ∧ 0 < L.getD 2 0 then runL K (haltL L [2, 3]) [4] else if 0 < L.getD 4 0 then L else runL K L [3]
def aheadL (L : List Nat) (t : Nat) : Bool := decide (0 < L.getD t 0 ∧ L.getD t 0 < L.getD 3 0)
def safeL (L : List Nat) : Bool := decide (L.getD 3 0 = 0) || (aheadL L 1 || aheadL L 2)
section
variable (B : Nat) (K L : List Nat) (w : World)
theorem runs_at (t : Int) (j : Nat) (ht : t = (j : Int)) (hj : j < 5) (h : At w B K L) :
    Calls Try.prog 17 #[.pointer (some ⟨B, 0, none⟩), .int .i64 t] w fun e w' => e = .returned (.bool (decide (0 < L.getD j 0))) ∧ w = w' :=
  (runs_any B 0 [] (encN K) 49 L t w h.bank).mono fun e w' ⟨he, hw⟩ => ⟨by rw [he, ht, leftL, if_pos (by omega), Int.toNat_natCast], hw⟩
theorem left_at (t : Int) (j : Nat) (ht : t = (j : Int)) (hj : j < 5) (h : At w B K L) :
    Calls Try.prog 24 #[.pointer (some ⟨B, 0, none⟩), .int .i64 t] w fun e w' => e = .returned (.int .i64 ((L.getD j 0 : Nat) : Int)) ∧ w = w' :=
  (left_any B 0 [] (encN K) 49 L t w h.bank).mono fun e w' ⟨he, hw⟩ => ⟨by rw [he, ht, leftL, if_pos (by omega), Int.toNat_natCast], hw⟩
theorem tick_at (h : At w B K L) :
    Calls Try.prog 20 #[.pointer (some ⟨B, 0, none⟩)] w fun e w' => ∃ v, e = .returned v ∧ OwnI w' w.heap.size v (oversL L) ∧ At w' B K (tickL L) ∧ Only w w' B :=
  (tick_any B 0 [] (encN K) 49 L w h.bank).mono fun _ _ ⟨v, h1, h2, h3, h4⟩ => ⟨v, h1, h2, ⟨h3, h.klen, h.kbd⟩, h4⟩
set_option maxRecDepth 100000 in
set_option maxHeartbeats 2000000 in
theorem listen_any (h : At w B K L) :
    Calls Try.prog 43 #[.pointer (some ⟨B, 0, none⟩)] w fun e w' => (∃ v, e = .returned v) ∧ At w' B K (listenL K L) ∧ Only w w' B := by
  have HA0 := Lib.hid h
  have HO0 : Hid (Only w w B) := Lib.hid (Only.refl _ _)
  clear h
  unfold listenL
  by_cases hp : 0 < L.getD 3 0
  · rw [if_pos hp]
    have hd : decide (0 < L.getD 3 0) = true := decide_eq_true hp
    go_enter Try.func43, Try.ntmps43
    go_wp2_with fail
    refine (runs_at B K L _ 3 3 rfl (by decide) HA0.out).mono ?_; rintro e w0' ⟨rfl, rfl⟩
    rw [hd]
    go_wp2_with fail
    (try simp only [Exit.inBlock, Exit.then]); refine bodyPost_end (results_none rfl _ _ _) rfl ?_
    exact ⟨⟨_, rfl⟩, HA0.out, HO0.out⟩
  · rw [if_neg hp]
    have hd : decide (0 < L.getD 3 0) = false := decide_eq_false hp
    go_enter Try.func43, Try.ntmps43
    go_wp2_with fail
    refine (runs_at B K L _ 3 3 rfl (by decide) HA0.out).mono ?_; rintro e w0' ⟨rfl, rfl⟩
    rw [hd]
    go_wp2_with fail
    refine (run_any B K _ w.heap.size 1 _ [3] _ (HA0.out.alloc _) (rd_lit _ [3] _ _ rfl _ rfl) (by have := HA0.out.lt; omega) (by simp) (by decide)).mono ?_; rintro e w1 ⟨⟨v1, rfl⟩, ha, ho⟩
    have HA1 := Lib.hid ha
    have HO1 : Hid (Only w w1 B) := Lib.hid ((HO0.out.trans (Only.of_below ((Below.refl _ _).alloc (Nat.le_refl _) _))).trans ho)
    clear ha ho HA0 HO0
    go_wp2_with fail
    (try simp only [Exit.inBlock, Exit.then]); refine bodyPost_end (results_none rfl _ _ _) rfl ?_
    exact ⟨⟨_, rfl⟩, HA1.out, HO1.out⟩
set_option maxRecDepth 100000 in
set_option maxHeartbeats 2000000 in
theorem begin_any (h : At w B K L) :
    Calls Try.prog 14 #[.pointer (some ⟨B, 0, none⟩)] w fun e w' => (∃ v, e = .returned v) ∧ At w' B K (beginL K L) ∧ Only w w' B := by
  have HA0 := Lib.hid h
  have HO0 : Hid (Only w w B) := Lib.hid (Only.refl _ _)
  clear h
  go_enter Try.func14, Try.ntmps14
  go_wp2_with fail
  refine (halt_any B K _ w.heap.size 2 _ [2, 4] _ (HA0.out.alloc _) (rd_lit _ [2, 4] _ _ rfl _ rfl) (by have := HA0.out.lt; omega) (by simp) (by decide)).mono ?_; rintro e w1 ⟨⟨v1, rfl⟩, ha, ho⟩
  have HA1 := Lib.hid ha
  have HO1 : Hid (Only w w1 B) := Lib.hid ((HO0.out.trans (Only.of_below ((Below.refl _ _).alloc (Nat.le_refl _) _))).trans ho)
  clear ha ho HA0 HO0
  go_wp2_with fail
  refine (run_any B K _ w1.heap.size 2 _ [1, 3] _ (HA1.out.alloc _) (rd_lit _ [1, 3] _ _ rfl _ rfl) (by have := HA1.out.lt; omega) (by simp) (by decide)).mono ?_; rintro e w2 ⟨⟨v2, rfl⟩, ha, ho⟩
  have HA2 := Lib.hid ha
  have HO2 : Hid (Only w w2 B) := Lib.hid ((HO1.out.trans (Only.of_below ((Below.refl _ _).alloc (Nat.le_refl _) _))).trans ho)
  clear ha ho HA1 HO1
  go_wp2_with fail
  (try simp only [Exit.inBlock, Exit.then]); refine bodyPost_end (results_none rfl _ _ _) rfl ?_
  exact ⟨⟨_, rfl⟩, HA2.out, HO2.out⟩
set_option maxRecDepth 100000 in
set_option maxHeartbeats 2000000 in
theorem end_any (h : At w B K L) :
    Calls Try.prog 28 #[.pointer (some ⟨B, 0, none⟩)] w fun e w' => (∃ v, e = .returned v) ∧ At w' B K (endL L) ∧ Only w w' B := by
  have HA0 := Lib.hid h
  have HO0 : Hid (Only w w B) := Lib.hid (Only.refl _ _)
  clear h
  go_enter Try.func28, Try.ntmps28
  go_wp2_with fail
  refine (halt_any B K _ w.heap.size 4 _ [1, 2, 3, 4] _ (HA0.out.alloc _) (rd_lit _ [1, 2, 3, 4] _ _ rfl _ rfl) (by have := HA0.out.lt; omega) (by simp) (by decide)).mono ?_; rintro e w1 ⟨⟨v1, rfl⟩, ha, ho⟩
  have HA1 := Lib.hid ha
  have HO1 : Hid (Only w w1 B) := Lib.hid ((HO0.out.trans (Only.of_below ((Below.refl _ _).alloc (Nat.le_refl _) _))).trans ho)
  clear ha ho HA0 HO0
  go_wp2_with fail
  (try simp only [Exit.inBlock, Exit.then]); refine bodyPost_end (results_none rfl _ _ _) rfl ?_
  exact ⟨⟨_, rfl⟩, HA1.out, HO1.out⟩
set_option maxRecDepth 100000 in
set_option maxHeartbeats 2000000 in
theorem again_any (h : At w B K L) :
    Calls Try.prog 30 #[.pointer (some ⟨B, 0, none⟩)] w fun e w' => (∃ v, e = .returned v) ∧ At w' B K (againL K L) ∧ Only w w' B := by
  have HA0 := Lib.hid h
  have HO0 : Hid (Only w w B) := Lib.hid (Only.refl _ _)
  clear h
  go_enter Try.func30, Try.ntmps30
  go_wp2_with fail
  refine (run_any B K _ w.heap.size 1 _ [0] _ (HA0.out.alloc _) (rd_lit _ [0] _ _ rfl _ rfl) (by have := HA0.out.lt; omega) (by simp) (by decide)).mono ?_; rintro e w1 ⟨⟨v1, rfl⟩, ha, ho⟩
  have HA1 := Lib.hid ha
  have HO1 : Hid (Only w w1 B) := Lib.hid ((HO0.out.trans (Only.of_below ((Below.refl _ _).alloc (Nat.le_refl _) _))).trans ho)
  clear ha ho HA0 HO0
  go_wp2_with fail
  (try simp only [Exit.inBlock, Exit.then]); refine bodyPost_end (results_none rfl _ _ _) rfl ?_
  exact ⟨⟨_, rfl⟩, HA1.out, HO1.out⟩
set_option maxRecDepth 100000 in
set_option maxHeartbeats 2000000 in
theorem enough_any (h : At w B K L) :
    Calls Try.prog 32 #[.pointer (some ⟨B, 0, none⟩)] w fun e w' => (∃ v, e = .returned v) ∧ At w' B K (enoughL L) ∧ Only w w' B := by
  have HA0 := Lib.hid h
  have HO0 : Hid (Only w w B) := Lib.hid (Only.refl _ _)
  clear h
  go_enter Try.func32, Try.ntmps32
  go_wp2_with fail
  refine (halt_any B K _ w.heap.size 1 _ [0] _ (HA0.out.alloc _) (rd_lit _ [0] _ _ rfl _ rfl) (by have := HA0.out.lt; omega) (by simp) (by decide)).mono ?_; rintro e w1 ⟨⟨v1, rfl⟩, ha, ho⟩
  have HA1 := Lib.hid ha
  have HO1 : Hid (Only w w1 B) := Lib.hid ((HO0.out.trans (Only.of_below ((Below.refl _ _).alloc (Nat.le_refl _) _))).trans ho)
  clear ha ho HA0 HO0
  go_wp2_with fail
  (try simp only [Exit.inBlock, Exit.then]); refine bodyPost_end (results_none rfl _ _ _) rfl ?_
  exact ⟨⟨_, rfl⟩, HA1.out, HO1.out⟩
set_option maxRecDepth 100000 in
set_option maxHeartbeats 2000000 in
theorem busy_any (h : At w B K L) :
    Calls Try.prog 19 #[.pointer (some ⟨B, 0, none⟩)] w fun e w' => (∃ v, e = .returned v) ∧ At w' B K (busyL K L) ∧ Only w w' B := by
  have HA0 := Lib.hid h
  have HO0 : Hid (Only w w B) := Lib.hid (Only.refl _ _)
  clear h
  unfold busyL
  by_cases h2 : 0 < L.getD 2 0
  · rw [if_pos (.inl h2)]
    have hd : decide (0 < L.getD 2 0) = true := decide_eq_true h2
    go_enter Try.func19, Try.ntmps19
    go_wp2_with fail
    refine (runs_at B K L _ 2 2 rfl (by decide) HA0.out).mono ?_; rintro e w0' ⟨rfl, rfl⟩
    rw [hd]
    go_wp2_with fail
    refine (halt_any B K _ w.heap.size 2 _ [2, 4] _ (HA0.out.alloc _) (rd_lit _ [2, 4] _ _ rfl _ rfl) (by have := HA0.out.lt; omega) (by simp) (by decide)).mono ?_; rintro e w1 ⟨⟨v1, rfl⟩, ha, ho⟩
    have HA1 := Lib.hid ha
    have HO1 : Hid (Only w w1 B) := Lib.hid ((HO0.out.trans (Only.of_below ((Below.refl _ _).alloc (Nat.le_refl _) _))).trans ho)
    clear ha ho HA0 HO0
    go_wp2_with fail
    refine (run_any B K _ w1.heap.size 1 _ [1] _ (HA1.out.alloc _) (rd_lit _ [1] _ _ rfl _ rfl) (by have := HA1.out.lt; omega) (by simp) (by decide)).mono ?_; rintro e w2 ⟨⟨v2, rfl⟩, ha, ho⟩
    have HA2 := Lib.hid ha
    have HO2 : Hid (Only w w2 B) := Lib.hid ((HO1.out.trans (Only.of_below ((Below.refl _ _).alloc (Nat.le_refl _) _))).trans ho)
    clear ha ho HA1 HO1
    go_wp2_with fail
    refine (listen_any B K _ _ HA2.out).mono ?_; rintro e w3 ⟨⟨v3, rfl⟩, ha, ho⟩
    have HA3 := Lib.hid ha
    have HO3 : Hid (Only w w3 B) := Lib.hid (HO2.out.trans ho)
    clear ha ho HA2 HO2
    go_wp2_with fail
    (try simp only [Exit.inBlock, Exit.then]); refine bodyPost_end (results_none rfl _ _ _) rfl ?_
    exact ⟨⟨_, rfl⟩, HA3.out, HO3.out⟩
  · have hd : decide (0 < L.getD 2 0) = false := decide_eq_false h2
    by_cases h4 : 0 < L.getD 4 0
    · rw [if_pos (.inr h4)]
      have hd4 : decide (0 < L.getD 4 0) = true := decide_eq_true h4
      go_enter Try.func19, Try.ntmps19
      go_wp2_with fail
      refine (runs_at B K L _ 2 2 rfl (by decide) HA0.out).mono ?_; rintro e w0' ⟨rfl, rfl⟩
      rw [hd]
      go_wp2_with fail
      refine (runs_at B K L _ 4 4 rfl (by decide) HA0.out).mono ?_; rintro e w0' ⟨rfl, rfl⟩
      rw [hd4]
      go_wp2_with fail
      refine (halt_any B K _ w.heap.size 2 _ [2, 4] _ (HA0.out.alloc _) (rd_lit _ [2, 4] _ _ rfl _ rfl) (by have := HA0.out.lt; omega) (by simp) (by decide)).mono ?_; rintro e w1 ⟨⟨v1, rfl⟩, ha, ho⟩
      have HA1 := Lib.hid ha
      have HO1 : Hid (Only w w1 B) := Lib.hid ((HO0.out.trans (Only.of_below ((Below.refl _ _).alloc (Nat.le_refl _) _))).trans ho)
      clear ha ho HA0 HO0
      go_wp2_with fail
      refine (run_any B K _ w1.heap.size 1 _ [1] _ (HA1.out.alloc _) (rd_lit _ [1] _ _ rfl _ rfl) (by have := HA1.out.lt; omega) (by simp) (by decide)).mono ?_; rintro e w2 ⟨⟨v2, rfl⟩, ha, ho⟩
      have HA2 := Lib.hid ha
      have HO2 : Hid (Only w w2 B) := Lib.hid ((HO1.out.trans (Only.of_below ((Below.refl _ _).alloc (Nat.le_refl _) _))).trans ho)
      clear ha ho HA1 HO1
      go_wp2_with fail
      refine (listen_any B K _ _ HA2.out).mono ?_; rintro e w3 ⟨⟨v3, rfl⟩, ha, ho⟩
      have HA3 := Lib.hid ha
      have HO3 : Hid (Only w w3 B) := Lib.hid (HO2.out.trans ho)
      clear ha ho HA2 HO2
      go_wp2_with fail
      (try simp only [Exit.inBlock, Exit.then]); refine bodyPost_end (results_none rfl _ _ _) rfl ?_
      exact ⟨⟨_, rfl⟩, HA3.out, HO3.out⟩
    · rw [if_neg (by rintro (h | h); exact h2 h; exact h4 h)]
      have hd4 : decide (0 < L.getD 4 0) = false := decide_eq_false h4
      go_enter Try.func19, Try.ntmps19
      go_wp2_with fail
      refine (runs_at B K L _ 2 2 rfl (by decide) HA0.out).mono ?_; rintro e w0' ⟨rfl, rfl⟩
      rw [hd]
      go_wp2_with fail
      refine (runs_at B K L _ 4 4 rfl (by decide) HA0.out).mono ?_; rintro e w0' ⟨rfl, rfl⟩
      rw [hd4]
      go_wp2_with fail
      (try simp only [Exit.inBlock, Exit.then]); refine bodyPost_end (results_none rfl _ _ _) rfl ?_
      exact ⟨⟨_, rfl⟩, HA0.out, HO0.out⟩
set_option maxRecDepth 100000 in
set_option maxHeartbeats 2000000 in
theorem polled_any (idle : Bool) (h : At w B K L) :
    Calls Try.prog 22 #[.pointer (some ⟨B, 0, none⟩), .bool idle] w fun e w' => (∃ v, e = .returned v) ∧ At w' B K (polledL K L idle) ∧ Only w w' B := by
  have HA0 := Lib.hid h
  have HO0 : Hid (Only w w B) := Lib.hid (Only.refl _ _)
  clear h
  cases idle
  · go_enter Try.func22, Try.ntmps22
    go_wp2_with fail
    refine (halt_any B K _ w.heap.size 3 _ [1, 2, 4] _ (HA0.out.alloc _) (rd_lit _ [1, 2, 4] _ _ rfl _ rfl) (by have := HA0.out.lt; omega) (by simp) (by decide)).mono ?_; rintro e w1 ⟨⟨v1, rfl⟩, ha, ho⟩
    have HA1 := Lib.hid ha
    have HO1 : Hid (Only w w1 B) := Lib.hid ((HO0.out.trans (Only.of_below ((Below.refl _ _).alloc (Nat.le_refl _) _))).trans ho)
    clear ha ho HA0 HO0
    go_wp2_with fail
    refine (run_any B K _ w1.heap.size 1 _ [1] _ (HA1.out.alloc _) (rd_lit _ [1] _ _ rfl _ rfl) (by have := HA1.out.lt; omega) (by simp) (by decide)).mono ?_; rintro e w2 ⟨⟨v2, rfl⟩, ha, ho⟩
    have HA2 := Lib.hid ha
    have HO2 : Hid (Only w w2 B) := Lib.hid ((HO1.out.trans (Only.of_below ((Below.refl _ _).alloc (Nat.le_refl _) _))).trans ho)
    clear ha ho HA1 HO1
    go_wp2_with fail
    refine (listen_any B K _ _ HA2.out).mono ?_; rintro e w3 ⟨⟨v3, rfl⟩, ha, ho⟩
    have HA3 := Lib.hid ha
    have HO3 : Hid (Only w w3 B) := Lib.hid (HO2.out.trans ho)
    clear ha ho HA2 HO2
    go_wp2_with fail
    (try simp only [Exit.inBlock, Exit.then]); refine bodyPost_end (results_none rfl _ _ _) rfl ?_
    exact ⟨⟨_, rfl⟩, HA3.out, HO3.out⟩
  · go_enter Try.func22, Try.ntmps22
    go_wp2_with fail
    refine (halt_any B K _ w.heap.size 3 _ [1, 2, 4] _ (HA0.out.alloc _) (rd_lit _ [1, 2, 4] _ _ rfl _ rfl) (by have := HA0.out.lt; omega) (by simp) (by decide)).mono ?_; rintro e w1 ⟨⟨v1, rfl⟩, ha, ho⟩
    have HA1 := Lib.hid ha
    have HO1 : Hid (Only w w1 B) := Lib.hid ((HO0.out.trans (Only.of_below ((Below.refl _ _).alloc (Nat.le_refl _) _))).trans ho)
    clear ha ho HA0 HO0
    go_wp2_with fail
    refine (run_any B K _ w1.heap.size 1 _ [2] _ (HA1.out.alloc _) (rd_lit _ [2] _ _ rfl _ rfl) (by have := HA1.out.lt; omega) (by simp) (by decide)).mono ?_; rintro e w2 ⟨⟨v2, rfl⟩, ha, ho⟩
    have HA2 := Lib.hid ha
    have HO2 : Hid (Only w w2 B) := Lib.hid ((HO1.out.trans (Only.of_below ((Below.refl _ _).alloc (Nat.le_refl _) _))).trans ho)
    clear ha ho HA1 HO1
    go_wp2_with fail
    refine (listen_any B K _ _ HA2.out).mono ?_; rintro e w3 ⟨⟨v3, rfl⟩, ha, ho⟩
    have HA3 := Lib.hid ha
    have HO3 : Hid (Only w w3 B) := Lib.hid (HO2.out.trans ho)
    clear ha ho HA2 HO2
    go_wp2_with fail
    (try simp only [Exit.inBlock, Exit.then]); refine bodyPost_end (results_none rfl _ _ _) rfl ?_
    exact ⟨⟨_, rfl⟩, HA3.out, HO3.out⟩
set_option maxRecDepth 100000 in
set_option maxHeartbeats 2000000 in
theorem answered_any (idle : Bool) (h : At w B K L) :
    Calls Try.prog 23 #[.pointer (some ⟨B, 0, none⟩), .bool idle] w fun e w' => (∃ v, e = .returned v) ∧ At w' B K (answeredL K L idle) ∧ Only w w' B := by
  have HA0 := Lib.hid h
  have HO0 : Hid (Only w w B) := Lib.hid (Only.refl _ _)
  clear h
  unfold answeredL
  cases idle
  · rw [if_neg (by simp)]
    by_cases h4 : 0 < L.getD 4 0
    · rw [if_pos h4]
      have hd4 : decide (0 < L.getD 4 0) = true := decide_eq_true h4
      go_enter Try.func23, Try.ntmps23
      go_wp2_with fail
      refine (runs_at B K L _ 4 4 rfl (by decide) HA0.out).mono ?_; rintro e w0' ⟨rfl, rfl⟩
      rw [hd4]
      go_wp2_with fail
      (try simp only [Exit.inBlock, Exit.then]); refine bodyPost_end (results_none rfl _ _ _) rfl ?_
      exact ⟨⟨_, rfl⟩, HA0.out, HO0.out⟩
    · rw [if_neg h4]
      have hd4 : decide (0 < L.getD 4 0) = false := decide_eq_false h4
      go_enter Try.func23, Try.ntmps23
      go_wp2_with fail
      refine (runs_at B K L _ 4 4 rfl (by decide) HA0.out).mono ?_; rintro e w0' ⟨rfl, rfl⟩
      rw [hd4]
      go_wp2_with fail
      refine (run_any B K _ w.heap.size 1 _ [3] _ (HA0.out.alloc _) (rd_lit _ [3] _ _ rfl _ rfl) (by have := HA0.out.lt; omega) (by simp) (by decide)).mono ?_; rintro e w1 ⟨⟨v1, rfl⟩, ha, ho⟩
      have HA1 := Lib.hid ha
      have HO1 : Hid (Only w w1 B) := Lib.hid ((HO0.out.trans (Only.of_below ((Below.refl _ _).alloc (Nat.le_refl _) _))).trans ho)
      clear ha ho HA0 HO0
      go_wp2_with fail
      (try simp only [Exit.inBlock, Exit.then]); refine bodyPost_end (results_none rfl _ _ _) rfl ?_
      exact ⟨⟨_, rfl⟩, HA1.out, HO1.out⟩
  · by_cases h2 : 0 < L.getD 2 0
    · rw [if_pos ⟨rfl, h2⟩]
      have hd : decide (0 < L.getD 2 0) = true := decide_eq_true h2
      go_enter Try.func23, Try.ntmps23
      go_wp2_with fail
      refine (runs_at B K L _ 2 2 rfl (by decide) HA0.out).mono ?_; rintro e w0' ⟨rfl, rfl⟩
      rw [hd]
      go_wp2_with fail
      refine (halt_any B K _ w.heap.size 2 _ [2, 3] _ (HA0.out.alloc _) (rd_lit _ [2, 3] _ _ rfl _ rfl) (by have := HA0.out.lt; omega) (by simp) (by decide)).mono ?_; rintro e w1 ⟨⟨v1, rfl⟩, ha, ho⟩
      have HA1 := Lib.hid ha
      have HO1 : Hid (Only w w1 B) := Lib.hid ((HO0.out.trans (Only.of_below ((Below.refl _ _).alloc (Nat.le_refl _) _))).trans ho)
      clear ha ho HA0 HO0
      go_wp2_with fail
      refine (run_any B K _ w1.heap.size 1 _ [4] _ (HA1.out.alloc _) (rd_lit _ [4] _ _ rfl _ rfl) (by have := HA1.out.lt; omega) (by simp) (by decide)).mono ?_; rintro e w2 ⟨⟨v2, rfl⟩, ha, ho⟩
      have HA2 := Lib.hid ha
      have HO2 : Hid (Only w w2 B) := Lib.hid ((HO1.out.trans (Only.of_below ((Below.refl _ _).alloc (Nat.le_refl _) _))).trans ho)
      clear ha ho HA1 HO1
      go_wp2_with fail
      (try simp only [Exit.inBlock, Exit.then]); refine bodyPost_end (results_none rfl _ _ _) rfl ?_
      exact ⟨⟨_, rfl⟩, HA2.out, HO2.out⟩
    · rw [if_neg (fun h => h2 h.2)]
      have hd : decide (0 < L.getD 2 0) = false := decide_eq_false h2
      by_cases h4 : 0 < L.getD 4 0
      · rw [if_pos h4]
        have hd4 : decide (0 < L.getD 4 0) = true := decide_eq_true h4
        go_enter Try.func23, Try.ntmps23
        go_wp2_with fail
        refine (runs_at B K L _ 2 2 rfl (by decide) HA0.out).mono ?_; rintro e w0' ⟨rfl, rfl⟩
        rw [hd]
        go_wp2_with fail
        refine (runs_at B K L _ 4 4 rfl (by decide) HA0.out).mono ?_; rintro e w0' ⟨rfl, rfl⟩
        rw [hd4]
        go_wp2_with fail
        (try simp only [Exit.inBlock, Exit.then]); refine bodyPost_end (results_none rfl _ _ _) rfl ?_
        exact ⟨⟨_, rfl⟩, HA0.out, HO0.out⟩
      · rw [if_neg h4]
        have hd4 : decide (0 < L.getD 4 0) = false := decide_eq_false h4
        go_enter Try.func23, Try.ntmps23
        go_wp2_with fail
        refine (runs_at B K L _ 2 2 rfl (by decide) HA0.out).mono ?_; rintro e w0' ⟨rfl, rfl⟩
        rw [hd]
        go_wp2_with fail
        refine (runs_at B K L _ 4 4 rfl (by decide) HA0.out).mono ?_; rintro e w0' ⟨rfl, rfl⟩
        rw [hd4]
        go_wp2_with fail
        refine (run_any B K _ w.heap.size 1 _ [3] _ (HA0.out.alloc _) (rd_lit _ [3] _ _ rfl _ rfl) (by have := HA0.out.lt; omega) (by simp) (by decide)).mono ?_; rintro e w1 ⟨⟨v1, rfl⟩, ha, ho⟩
        have HA1 := Lib.hid ha
        have HO1 : Hid (Only w w1 B) := Lib.hid ((HO0.out.trans (Only.of_below ((Below.refl _ _).alloc (Nat.le_refl _) _))).trans ho)
        clear ha ho HA0 HO0
        go_wp2_with fail
        (try simp only [Exit.inBlock, Exit.then]); refine bodyPost_end (results_none rfl _ _ _) rfl ?_
        exact ⟨⟨_, rfl⟩, HA1.out, HO1.out⟩
set_option maxRecDepth 100000 in
set_option maxHeartbeats 2000000 in
theorem ahead_any (t : Int) (j : Nat) (ht : t = (j : Int)) (hj : j < 5) (h : At w B K L) :
    Calls Try.prog 42 #[.pointer (some ⟨B, 0, none⟩), .int .i64 t] w fun e w' => e = .returned (.bool (aheadL L j)) ∧ ∃ q, w' = w.drewN q := by
  have HA := Lib.hid h
  have hT := Lib.hid ht
  have hJ := Lib.hid hj
  unfold aheadL
  by_cases hp : 0 < L.getD j 0
  · have HR : Hid (∀ q, Calls Try.prog 17 #[.pointer (some ⟨B, 0, none⟩), .int .i64 t] (w.drewN q) fun e w' => e = .returned (.bool true) ∧ w' = w.drewN q) := Lib.hid (fun q =>
      (runs_at B K L _ t j hT.out hJ.out (HA.out.drewN q)).mono fun e w' ⟨he, hw⟩ => ⟨by rw [he, decide_eq_true hp], hw.symm⟩)
    have HT : Hid (∀ q, Calls Try.prog 24 #[.pointer (some ⟨B, 0, none⟩), .int .i64 t] (w.drewN q) fun e w' => e = .returned (.int .i64 ((L.getD j 0 : Nat) : Int)) ∧ w' = w.drewN q) := Lib.hid (fun q =>
      (left_at B K L _ t j hT.out hJ.out (HA.out.drewN q)).mono fun e w' ⟨he, hw⟩ => ⟨he, hw.symm⟩)
    have HT3 : Hid (∀ q, Calls Try.prog 24 #[.pointer (some ⟨B, 0, none⟩), .int .i64 3] (w.drewN q) fun e w' => e = .returned (.int .i64 ((L.getD 3 0 : Nat) : Int)) ∧ w' = w.drewN q) := Lib.hid (fun q =>
      (left_at B K L _ 3 3 rfl (by decide) (HA.out.drewN q)).mono fun e w' ⟨he, hw⟩ => ⟨he, hw.symm⟩)
    obtain ⟨x, hx⟩ : ∃ x, L.getD j 0 = x := ⟨_, rfl⟩
    obtain ⟨y, hy⟩ : ∃ y, L.getD 3 0 = y := ⟨_, rfl⟩
    rw [hx] at HT hp ⊢
    rw [hy] at HT3 ⊢
    have hres : decide (0 < x ∧ x < y) = decide (x < y) := by simp [hp]
    rw [hres]
    clear hx hy hp hres ht hj h
    go_enter Try.func42, Try.ntmps42
    go_wp2_with fail
    go_quiet (first
      | with_reducible exact Calls.quiet_of_same (HR.out _)
      | with_reducible exact Calls.quiet_of_same (HT.out _)
      | with_reducible exact Calls.quiet_of_same (HT3.out _))
    go_wp2_with fail
    go_ret
    exact ⟨rfl, _, rfl⟩
  · have HR : Hid (∀ q, Calls Try.prog 17 #[.pointer (some ⟨B, 0, none⟩), .int .i64 t] (w.drewN q) fun e w' => e = .returned (.bool false) ∧ w' = w.drewN q) := Lib.hid (fun q =>
      (runs_at B K L _ t j hT.out hJ.out (HA.out.drewN q)).mono fun e w' ⟨he, hw⟩ => ⟨by rw [he, decide_eq_false hp], hw.symm⟩)
    have hres : decide (0 < L.getD j 0 ∧ L.getD j 0 < L.getD 3 0) = false := decide_eq_false (fun h => hp h.1)
    rw [hres]
    clear hp hres ht hj h
    go_enter Try.func42, Try.ntmps42
    go_wp2_with fail
    go_quiet (first
      | with_reducible exact Calls.quiet_of_same (HR.out _))
    go_wp2_with fail
    go_ret
    exact ⟨rfl, _, rfl⟩
set_option maxRecDepth 100000 in
set_option maxHeartbeats 2000000 in
theorem safe_any (h : At w B K L) :
    Calls Try.prog 16 #[.pointer (some ⟨B, 0, none⟩)] w fun e w' => e = .returned (.bool (safeL L)) ∧ ∃ q, w' = w.drewN q := by
  unfold safeL
  by_cases hp : 0 < L.getD 3 0
  · have hd : decide (0 < L.getD 3 0) = true := decide_eq_true hp
    have hd2 : decide (L.getD 3 0 = 0) = false := decide_eq_false (by omega)
    rw [hd2]
    have HA := Lib.hid h
    obtain ⟨a1, h1⟩ : ∃ a, aheadL L 1 = a := ⟨_, rfl⟩
    obtain ⟨a2, h2⟩ : ∃ a, aheadL L 2 = a := ⟨_, rfl⟩
    rw [h1, h2]
    clear h hp hd2
    cases a1
    · go_enter Try.func16, Try.ntmps16
      go_wp2_with fail
      refine (runs_at B K L _ 3 3 rfl (by decide) HA.out).mono ?_; rintro e w' ⟨rfl, rfl⟩
      rw [hd]
      go_wp2_with fail
      refine (ahead_any B K L _ 1 1 rfl (by decide) HA.out).mono ?_; rintro e w' ⟨rfl, q1, rfl⟩
      rw [h1]
      go_wp2_with fail
      refine (ahead_any B K L _ 2 2 rfl (by decide) (HA.out.drewN q1)).mono ?_; rintro e w' ⟨rfl, q2, rfl⟩
      rw [h2]
      go_wp2_with fail
      go_ret
      exact ⟨by cases a2 <;> rfl, q1 + q2, rfl⟩
    · go_enter Try.func16, Try.ntmps16
      go_wp2_with fail
      refine (runs_at B K L _ 3 3 rfl (by decide) HA.out).mono ?_; rintro e w' ⟨rfl, rfl⟩
      rw [hd]
      go_wp2_with fail
      refine (ahead_any B K L _ 1 1 rfl (by decide) HA.out).mono ?_; rintro e w' ⟨rfl, q1, rfl⟩
      rw [h1]
      go_wp2_with fail
      go_ret
      exact ⟨rfl, q1, rfl⟩
  · have hd : decide (0 < L.getD 3 0) = false := decide_eq_false hp
    have hd2 : decide (L.getD 3 0 = 0) = true := decide_eq_true (by omega)
    rw [hd2]
    have HA := Lib.hid h
    clear h hp hd2
    go_enter Try.func16, Try.ntmps16
    go_wp2_with fail
    refine (runs_at B K L _ 3 3 rfl (by decide) HA.out).mono ?_; rintro e w' ⟨rfl, rfl⟩
    rw [hd]
    go_wp2_with fail
    go_ret
    exact ⟨rfl, 0, rfl⟩
def asksL (t : Int) : Bool := decide (t = 1 ∨ t = 2 ∨ t = 4)
set_option maxRecDepth 100000 in
set_option maxHeartbeats 2000000 in
theorem asks_any (t : Int) (p : Value) :
    Calls Try.prog 21 #[p, .int .i64 t] w fun e w' => e = .returned (.bool (asksL t)) ∧ w' = w := by
  unfold asksL
  by_cases h1 : t = 1
  · subst h1
    go_enter Try.func21, Try.ntmps21
    go_wp2_with fail
    go_ret
    exact ⟨rfl, rfl⟩
  · by_cases h2 : t = 2
    · subst h2
      go_enter Try.func21, Try.ntmps21
      go_wp2_with fail
      go_ret
      exact ⟨rfl, rfl⟩
    · by_cases h4 : t = 4
      · subst h4
        go_enter Try.func21, Try.ntmps21
        go_wp2_with fail
        go_ret
        exact ⟨rfl, rfl⟩
      · rw [decide_eq_false (by rintro (h | h | h); exact h1 h; exact h2 h; exact h4 h)]
        have e1 : (t == 1) = false := by simpa using h1
        have e2 : (t == 2) = false := by simpa using h2
        have e4 : (t == 4) = false := by simpa using h4
        go_enter Try.func21, Try.ntmps21
        go_wp2_with fail
        go_ret
        exact ⟨rfl, rfl⟩
end
end Go.Proofs.Ytlfjndjbfbejkaa.Pace
