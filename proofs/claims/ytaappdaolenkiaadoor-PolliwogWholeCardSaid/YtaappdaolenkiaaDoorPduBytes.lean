/-
  Units: their bytes.
-/
import Derived.Test.YtaappdaolenkiaaDoorPduWords
import Derived.Test.YtaappdaolenkiaaDoorOwnB
import Derived.Deep.RegionLaw
import Derived.Deep.DeepCutAuto
namespace Go.Proofs.YtaappdaolenkiaaDoor.Pdu
open Go.ChangeShapes Go.WideShapes Go.RowKit Own

def lastI (z : Int) (u : U) : Int := z * 1073741824 + (if u.self then 536870912 else 0) + u.kind * 16777216 + u.n

theorem or29 (z r : Nat) (hr : r < 536870912) : (z * 1073741824 + r) ||| 536870912 = z * 1073741824 + 536870912 + r := by
  have e1 : z * 1073741824 = z <<< 30 := by rw [Nat.shiftLeft_eq]
  have e2 : (536870912 : Nat) = 1 <<< 29 := by decide
  have a1 := Nat.shiftLeft_add_eq_or_of_lt (b := r) (i := 30) (by omega) z
  have a2 := Nat.shiftLeft_add_eq_or_of_lt (b := r) (i := 29) (by omega) 1
  have a3 := Nat.shiftLeft_add_eq_or_of_lt (b := 1 <<< 29 + r) (i := 30) (by rw [← e2]; omega) z
  rw [e1, a1, Nat.or_assoc, Nat.or_comm r, e2, ← a2, ← a3]
  omega
theorem or29I (z k : Nat) (n : Int) (hz : z ≤ 3) (hk : k ≤ 15) (hn1 : 0 ≤ n) (hn2 : n ≤ 16777215) :
    bits .or .u32 ((z : Int) * 1073741824 + (k : Int) * 16777216 + n) 536870912 = (z : Int) * 1073741824 + 536870912 + (k : Int) * 16777216 + n := by
  obtain ⟨m, rfl⟩ := Int.eq_ofNat_of_zero_le hn1
  have h := u32_or_nat (z * 1073741824 + (k * 16777216 + m)) 536870912 (by omega) (by decide)
  rw [or29 z (k * 16777216 + m) (by omega)] at h
  have e : (z : Int) * 1073741824 + (k : Int) * 16777216 + (m : Int) = ((z * 1073741824 + (k * 16777216 + m) : Nat) : Int) := by omega
  rw [e]
  refine h.trans ?_
  omega

theorem last_any (z k : Nat) (sq n ps mr : Int) (lv : Value) (self : Bool) (data : ByteArray) (w : World) (hz : z ≤ 3) (hk : k ≤ 15) (hn1 : 0 ≤ n) (hn2 : n ≤ 16777215) :
    Calls Tryd.prog 25 #[.agg #[.int .i64 (k : Int), .int .i64 sq, .int .u32 n, .int .u32 ps, .int .u32 mr, lv, .bool self, .string data], .int .i64 (z : Int)] w
      fun e w' => e = .returned (.int .u32 ((z : Int) * 1073741824 + (if self then 536870912 else 0) + (k : Int) * 16777216 + n)) ∧ Below w.heap.size w w' := by
  have h1 : bits .or .u32 ((z : Int) * 1073741824) ((k : Int) * 16777216) = (z : Int) * 1073741824 + (k : Int) * 16777216 :=
    bits_join .u32 32 (by decide) (fun n h0 h1 => by rw [IntKind.wrap_u32]; omega) 30 _ _ (by omega) (by omega) (by omega) (by omega) (by omega) (by omega)
  have h2 : bits .or .u32 ((z : Int) * 1073741824 + (k : Int) * 16777216) n = (z : Int) * 1073741824 + (k : Int) * 16777216 + n :=
    bits_join .u32 32 (by decide) (fun n h0 h1 => by rw [IntKind.wrap_u32]; omega) 24 _ _ (by omega) (by omega) (by omega) (by omega) (by omega) (by omega)
  go_enter Tryd.func25, Tryd.ntmps25
  have h3 := or29I z k n hz hk hn1 hn2
  cases self with
  | false =>
    go_wp2
    go_ret
    exact ⟨ret_int (by simp), (Below.refl _ _).alloc (Nat.le_refl _) _⟩
  | true =>
    go_wp2
    go_ret
    exact ⟨ret_int (by simp), (Below.refl _ _).alloc (Nat.le_refl _) _⟩

def be4 (x : Int) : List Int := [x / 16777216 % 256, x / 65536 % 256, x / 256 % 256, x % 256]
theorem be4_length (l : List Int) : (l.flatMap be4).length = 4 * l.length := by
  induction l with
  | nil => rfl
  | cons x t ih => rw [List.flatMap_cons, List.length_append, ih, List.length_cons]; simp [be4]; omega
def padU (u : U) : Nat := (4 - u.data.size % 4) % 4
def dataI (s : ByteArray) : List Int := s.data.toList.map fun b => (b.toNat : Int)
/-- a unit's bytes, as numbers -/
def bytesI (u : U) : List Int := dataI u.data ++ List.replicate (padU u) 0 ++ (wordsL (formOf u.kind.toNat) u ++ [lastI (padU u) u]).flatMap be4
def bytesU (u : U) : ByteArray := if checkU u = 0 then strOfNums (bytesI u) else ⟨#[]⟩

theorem conv_run (w : World) (s : ByteArray) : (convert 9 67 (.string s)).run Tryd.prog w = .ok (.slice (some ⟨w.heap.size, 0, none⟩) s.size (grownCap w s.size 0 5)) (w.drew.alloc (.cells (bytesRow s (grownCap w s.size 0 5)) 5 ((bytesRow s (grownCap w s.size 0 5)).size, (bytesRow s (grownCap w s.size 0 5)).size + 1))) :=
  run_bytes_of_string w _ _ _ s Tryd.underlying9 Tryd.underlying67 Tryd.underlying5

theorem below_drewN {B : Nat} {a w : World} (h : Below B a w) (n : Nat) : Below B a (w.drewN n) := h.trans ⟨rfl, rfl, rfl, Nat.le_refl _, fun _ _ => rfl⟩

theorem check_ok (u : U) (h : checkU u = 0) : ∃ k : Nat, u.kind = (k : Int) ∧ 1 ≤ k ∧ k ≤ 15 ∧ 0 ≤ u.sq ∧ u.sq ≤ 255 ∧ u.n ≤ 16777215 ∧ u.ps ≤ 16777215 ∧ u.mr ≤ 16777215 ∧ u.list.length ≤ 128 ∧ u.data.size ≤ 200 ∧ anyBig u.list = false := by
  unfold checkU at h
  split at h
  · cases h
  · rename_i hk
    have hk1 : knownB u.kind = true := by simpa using hk
    have hk2 := of_decide_eq_true hk1
    split at h
    · cases h
    · rename_i hb
      split at h
      · rename_i hf
        obtain ⟨⟨f1, f2, f3, f4, f5, f6, f7⟩, g1, g2, g3, g4⟩ := hf
        have hb := formOf_bounds u.kind.toNat
        exact ⟨u.kind.toNat, by omega, by omega, by omega, f1, by omega, by omega, by omega, by omega, by omega, by omega, g4⟩
      · cases h

theorem own_slice {κ : IntKind} {τ : TypeId} {w : World} {base : Nat} {v : Value} {L : List Int} (h : OwnI κ τ w base v L) : ∃ a cap, v = .slice a L.length cap := by
  rcases h.2 with ⟨h1, h2⟩ | ⟨g, cap, cur, h1, _⟩
  · exact ⟨none, 0, by rw [h2]; exact h1⟩
  · exact ⟨_, _, h1⟩

theorem ownI_block {κ : IntKind} {τ : TypeId} {w : World} {base : Nat} {v : Value} {L : List Int} (h : OwnI κ τ w base v L) {b off n cap : Nat} (e : v = .slice (some ⟨b, off, none⟩) n cap) : base ≤ b := by
  rcases h.2 with ⟨h1, h2⟩ | ⟨g, cap, cur, h1, h2, _⟩
  · rw [h1] at e; cases e
  · rw [h1] at e; cases e; exact h2
theorem ownB_block {w : World} {base : Nat} {v : Value} {L : List Int} (h : OwnB w base v L) {b : Nat} (e : v.ownBlock = some b) : b < w.heap.size := by
  rcases h with ⟨rfl, _⟩ | ⟨g, cap, cur, fz, rfl, h2, h3, _⟩
  · cases e
  · simp only [Value.ownBlock, Option.some.injEq] at e
    subst e
    exact (Array.getElem?_eq_some_iff.1 h3).1
theorem rdI_grown {κ : IntKind} {w w' : World} {a : Option Addr} {n : Nat} {L : List Int} {k : Option Nat} (h : RdI κ w a n L) (hg : w.grownBy w' k) (hk : ∀ b off, a = some ⟨b, off, none⟩ → k ≠ some b) : RdI κ w' a n L := by
  refine ⟨h.1, fun hn => ?_⟩
  obtain ⟨b, off, rfl, hlt, hc⟩ := h.2 hn
  refine ⟨b, off, rfl, Nat.lt_of_lt_of_le hlt hg.size, fun i hi => ?_⟩
  have := hg.block b hlt (fun e => hk b off rfl e.symm)
  rw [← hc i hi]
  simp only [World.cell?, this]

set_option maxHeartbeats 1000000 in
theorem bytes_ok (k : Nat) (a : Option Addr) (cap : Nat) (sq n ps mr : Int) (list : List Int) (self : Bool) (data : ByteArray) (w : World) (hF : Forms w) (hv : Nums .u32 w (.slice a list.length cap) list) (hn0 : 0 ≤ n)
    (hc : checkU ⟨k, sq, n, ps, mr, list, self, data⟩ = 0) :
    Calls Tryd.prog 10 #[.agg #[.int .i64 (k : Int), .int .i64 sq, .int .u32 n, .int .u32 ps, .int .u32 mr, .slice a list.length cap, .bool self, .string data]] w fun e w' => e = .returned (.string (strOfNums (bytesI ⟨k, sq, n, ps, mr, list, self, data⟩))) ∧ Below w.heap.size w w' := by
  obtain ⟨k', hk0, hk1, hk2, hs1, hs2, hn1, _, _, hl, hd, _⟩ := check_ok _ hc
  have hk' : k = k' := by simp only at hk0; omega
  subst hk'
  simp only at hs1 hs2 hn1 hl hd
  obtain ⟨z, hz⟩ : ∃ z : Nat, -((data.size : Int) % 4) % 4 = (z : Int) := ⟨(4 - data.size % 4) % 4, by omega⟩
  have hz3 : z ≤ 3 := by omega
  have HZ2 := Lib.hid (show (4 - (data.size : Int) % 4) % 4 = (z : Int) by omega)
  have hzp : padU ⟨k, sq, n, ps, mr, list, self, data⟩ = z := by unfold padU; simp only; omega
  have HZP := Lib.hid hzp
  have HC := Lib.hid hc
  clear hzp hc
  have hcv := conv_run
  have hF1 := Lib.hid (hF.alloc (.cells #[.int .i64 (k : Int), .int .i64 sq, .int .u32 n, .int .u32 ps, .int .u32 mr, .slice a list.length cap, .bool self, .string data] 32))
  have hv1 := Lib.hid (hv.alloc (.cells #[.int .i64 (k : Int), .int .i64 sq, .int .u32 n, .int .u32 ps, .int .u32 mr, .slice a list.length cap, .bool self, .string data] 32))
  have HL := Lib.hid hl
  clear hF hv hl
  go_enter Tryd.func10, Tryd.ntmps10
  go_wp2_with fail
  refine (check_any ⟨k, sq, n, ps, mr, list, self, data⟩ (.slice a list.length cap) _ hF1.out hv1.out).mono ?_
  rintro e w1 ⟨rfl, hb1⟩
  rw [HC.out]
  have hF2 := Lib.hid (hF1.out.below hb1 (Nat.le_refl _))
  have hv2 := Lib.hid (hv1.out.below hb1 (Nat.le_refl _))
  have hg1 : w1.heap[w.heap.size]? = some (.cells #[.int .i64 (k : Int), .int .i64 sq, .int .u32 n, .int .u32 ps, .int .u32 mr, .slice a list.length cap, .bool self, .string data] 32 (0, 0)) := (hb1.block _ (by simp)).trans (heap_alloc_new w _)
  have hb2 : Below w.heap.size w w1 := ((Below.refl w.heap.size w).alloc (Nat.le_refl _) _).trans (hb1.mono (by simp))
  have hs1' : w.heap.size < w1.heap.size := by rcases Array.getElem?_eq_some_iff.1 hg1 with ⟨h, _⟩; exact h
  have p0 : w1.cell? ⟨w.heap.size, 0, none⟩ = some (.int .i64 (k : Int)) := Go.Joins.cell_of_block hg1 0
  have p1 : w1.cell? ⟨w.heap.size, 1, none⟩ = some (.int .i64 sq) := Go.Joins.cell_of_block hg1 1
  have p2 : w1.cell? ⟨w.heap.size, 2, none⟩ = some (.int .u32 n) := Go.Joins.cell_of_block hg1 2
  have p3 : w1.cell? ⟨w.heap.size, 3, none⟩ = some (.int .u32 ps) := Go.Joins.cell_of_block hg1 3
  have p4 : w1.cell? ⟨w.heap.size, 4, none⟩ = some (.int .u32 mr) := Go.Joins.cell_of_block hg1 4
  have p5 : w1.cell? ⟨w.heap.size, 5, none⟩ = some (.slice a list.length cap) := Go.Joins.cell_of_block hg1 5
  have p6 : w1.cell? ⟨w.heap.size, 6, none⟩ = some (.bool self) := Go.Joins.cell_of_block hg1 6
  have p7 : w1.cell? ⟨w.heap.size, 7, none⟩ = some (.string data) := Go.Joins.cell_of_block hg1 7
  clear hF1 hv1 hb1
  go_wp2_with (at_builtin; refine wpList_appZ infoB rfl (.tmp 18) (.tmp 19) 67 3 rfl Tryd.underlying67 Tryd.underlying3 w1.heap.size _ _ rfl (ownB_conv _ _ _ (Nat.le_refl _) (by unfold maxLen; omega)) z (congrArg (Value.int .i64) HZ2.out) (by rw [List.length_map]; show data.size + z ≤ _; omega) (by simp) ?_)
  intro v2 w2 hown2 hgrow2
  have hb12 : Below w1.heap.size w1 w2 := ownB_grown ((Below.refl _ _).alloc (Nat.le_refl _) _).drew (by simp) hgrow2 (ownB_conv w1 data w1.heap.size (Nat.le_refl _) (by unfold maxLen; omega))
  have hF3 := hF2.out.below hb12 (Nat.le_refl _)
  have hv3 := hv2.out.below hb12 (Nat.le_refl _)
  have hg2 := (hb12.block _ hs1').trans hg1
  have hs2' : w.heap.size < w2.heap.size := Nat.lt_of_lt_of_le hs1' hb12.size
  have hb3 : Below w.heap.size w w2 := hb2.trans (hb12.mono (Nat.le_of_lt hs1'))
  have hbox : ∀ w', Below w2.heap.size w2 w' → w'.cell? ⟨w.heap.size, 0, none⟩ = some (.int .i64 (k : Int)) ∧ w'.cell? ⟨w.heap.size, 1, none⟩ = some (.int .i64 sq) ∧ w'.cell? ⟨w.heap.size, 2, none⟩ = some (.int .u32 n) ∧ w'.cell? ⟨w.heap.size, 3, none⟩ = some (.int .u32 ps) ∧ w'.cell? ⟨w.heap.size, 4, none⟩ = some (.int .u32 mr) ∧ w'.cell? ⟨w.heap.size, 5, none⟩ = some (.slice a list.length cap) ∧ w'.cell? ⟨w.heap.size, 6, none⟩ = some (.bool self) ∧ w'.cell? ⟨w.heap.size, 7, none⟩ = some (.string data) := by
    intro w' hb
    have hg := (hb.block _ hs2').trans hg2
    exact ⟨Go.Joins.cell_of_block hg 0, Go.Joins.cell_of_block hg 1, Go.Joins.cell_of_block hg 2, Go.Joins.cell_of_block hg 3, Go.Joins.cell_of_block hg 4, Go.Joins.cell_of_block hg 5, Go.Joins.cell_of_block hg 6, Go.Joins.cell_of_block hg 7⟩
  have HBOX := Lib.hid hbox
  have hfv : ∀ w', Below w2.heap.size w2 w' → Forms w' ∧ Nums .u32 w' (.slice a list.length cap) list := fun w' hb => ⟨hF3.below hb (Nat.le_refl _), hv3.below hb (Nat.le_refl _)⟩
  have HFV := Lib.hid hfv
  have hown2 := hown2.lower (Nat.le_refl w1.heap.size)
  have HOWN2 := Lib.hid hown2
  have HB3 := Lib.hid hb3
  have hwl : (wordsL (formOf k) ⟨(k : Int), sq, n, ps, mr, list, self, data⟩).length ≤ 1000 := by
    simp only [wordsL, List.length_append]
    have := HL.out
    split <;> split <;> split <;> simp <;> omega
  have HWL := Lib.hid hwl
  obtain ⟨p0, p1, p2, p3, p4, p5, p6, p7⟩ := hbox w2 (Below.refl _ _)
  have HB12 := Lib.hid hb12
  have HB2 := Lib.hid hb2
  have HS1 := Lib.hid hs1'
  clear hgrow2 hb12 hF3 hv3 hg1 hg2 hbox hfv hown2 hb3 hF2 hv2 hb2 hcv hwl
  go_upto_region 5 with (fail)
  obtain ⟨W0, hW0⟩ : ∃ W0, W0 = wordsL (formOf k) ⟨(k : Int), sq, n, ps, mr, list, self, data⟩ := ⟨_, rfl⟩
  rw [← hW0] at HWL
  obtain ⟨x0, hx0⟩ : ∃ x0, x0 = (z : Int) * 1073741824 + (if self then 536870912 else 0) + (k : Int) * 16777216 + n := ⟨_, rfl⟩
  have HLAST : Hid (∀ w, Calls Tryd.prog 25 #[.agg #[.int .i64 (k : Int), .int .i64 sq, .int .u32 n, .int .u32 ps, .int .u32 mr, .slice a list.length cap, .bool self, .string data], .int .i64 (z : Int)] w
      fun e w' => e = .returned (.int .u32 x0) ∧ Below w.heap.size w w') := Lib.hid fun w => by rw [hx0]; exact last_any z k sq n ps mr (.slice a list.length cap) self data w hz3 hk2 hn0 hn1
  have HX0 := Lib.hid hx0
  clear hx0
  obtain ⟨W, hW⟩ : ∃ W, W = W0 ++ [x0] := ⟨_, rfl⟩
  have HW0 := Lib.hid hW0
  have HW := Lib.hid hW
  clear hW0 hW
  go_cut [27, 28, 29] (fun s27 s28 s29 wx => ∃ a3 c3, s27 = .slice a3 W.length c3 ∧ OwnI .u32 25 wx w2.heap.size (.slice a3 W.length c3) W ∧ s28 = .int .i64 W.length ∧ s29 = .int .i64 0 ∧ Below w2.heap.size w2 wx)
  case first =>
    go_region_law (first
      | (refine step_appI infoW (by decide) rfl (.tmp 22) (.tmp 26) 68 rfl Tryd.underlying68 w2.heap.size _ _ rfl (by first | exact hownW | exact OwnI.below hownW ((Below.refl _ _).alloc (Nat.le_refl _) _)) _ 1 1 [_] rfl (by first | exact rdI_lit1_at _ _ _ _ _ (by simp) | exact hlit) (fun h => by cases h) (Nat.le_trans (Nat.succ_le_succ HWL.out) (by decide)) (by have := hbN.size; first | omega | (simp; omega)) ?_
         intro v5 w5 hown5 hgrow5
         (have hown5 : OwnI .u32 25 w5 w2.heap.size v5 W := by rw [HW.out]; exact hown5)
         obtain ⟨a5, c5, rfl⟩ := own_slice hown5
         (first
           | (have hb5 := own_grown (hbN.alloc hbN.size _) (by have := hbN.size; simp; omega) hgrow5 (by first | exact hownW | exact OwnI.below hownW ((Below.refl _ _).alloc (Nat.le_refl _) _)))
           | (have hb5 := own_grown hbN hbN.size hgrow5 (by first | exact hownW | exact OwnI.below hownW ((Below.refl _ _).alloc (Nat.le_refl _) _)))))
      | (go_simp
         go_at_call 24
         (refine (words_any ⟨(k : Int), sq, n, ps, mr, list, self, data⟩ k (.slice a list.length cap) _ rfl hk1 hk2 hs1 hs2 (by first | exact (HFV.out _ hbN).1 | exact (HFV.out _ (hbN.alloc hbN.size _)).1 | exact (HFV.out _ (Below.refl _ _).drew).1) (by first | exact (HFV.out _ hbN).2 | exact (HFV.out _ (hbN.alloc hbN.size _)).2 | exact (HFV.out _ (Below.refl _ _).drew).2) (Nat.le_trans HL.out (by decide))).mono ?_)
         rintro e w3 ⟨v3, rfl, hownW0, hbW⟩
         (first
           | (have hbX := hbN; have hownW := hownW0.lower hbX.size; have hbN := hbX.trans (hbW.mono hbX.size))
           | (have hbX := hbN.alloc hbN.size (.cells #[.int .u32 x0] 25); have hlit := rdI_lit1_at .u32 _ _ 25 _ (((hbW.block _ (by simp)).trans (heap_alloc_new _ _))); have hownW := hownW0.lower hbX.size; have hbN := hbX.trans (hbW.mono hbX.size))
           | (have hbX : Below w2.heap.size w2 w2.drew := (Below.refl _ _).drew; have hownW := hownW0.lower hbX.size; have hbN := hbX.trans (hbW.mono hbX.size)))
         (have hownW : OwnI .u32 25 w3 w2.heap.size v3 W0 := by rw [HW0.out]; exact hownW)
         clear hownW0
         obtain ⟨p0, p1, p2, p3, p4, p5, p6, p7⟩ := HBOX.out _ hbN)
      | (go_simp
         go_at_call 25
         refine (HLAST.out _).mono ?_
         rintro e w4 ⟨rfl, hbL⟩
         (first | (have hbX := hbN) | (have hbX : Below w2.heap.size w2 w2.drew := (Below.refl _ _).drew))
         (try have hownW := hownW.below hbL)
         have hbN := hbX.trans (hbL.mono hbX.size)
         obtain ⟨p0, p1, p2, p3, p4, p5, p6, p7⟩ := HBOX.out _ hbN))
    all_goals go_wp2_with fail
    all_goals go_meet
    all_goals exact ⟨_, _, rfl, hown5, rfl, rfl, hb5⟩
  case rest =>
    obtain ⟨a3, c3, rfl, hownW, rfl, rfl, hbW⟩ := hcut
    have hWl : W.length ≤ 1001 := by rw [HW.out, List.length_append]; exact Nat.succ_le_succ HWL.out
    obtain ⟨D, hD⟩ : ∃ D : List Int, D = data.data.toList.map (fun b => (b.toNat : Int)) ++ List.replicate z 0 := ⟨_, rfl⟩
    have HD := Lib.hid hD
    have hDl : D.length ≤ 203 := by
      rw [hD, List.length_append, List.length_map, List.length_replicate]
      show data.size + z ≤ 203
      omega
    have HLN : Hid (∀ j : Nat, (D ++ (W.take j).flatMap be4).length + 4 ≤ 1000000) := Lib.hid fun j => by
      rw [List.length_append, be4_length, List.length_take]
      omega
    have hownD : OwnB wc w1.heap.size v2 (D ++ (W.take 0).flatMap be4) := by
      rw [hD, List.take_zero, List.flatMap_nil, List.append_nil]
      exact HOWN2.out.below hbW
    have hrd : RdI .u32 wc a3 W.length W := by
      obtain ⟨a', n', cap', e, _, h⟩ := hownW.form
      cases e
      exact h
    have haway : ∀ b off, a3 = some ⟨b, off, none⟩ → v2.ownBlock ≠ some b := by
      intro b off e hv
      have h1 := ownI_block hownW (b := b) (off := off) (by rw [e])
      have h2 := ownB_block HOWN2.out hv
      omega
    have hbc : Below w1.heap.size w1 wc := HB12.out.trans (hbW.mono HB12.out.size)
    have HWl := Lib.hid hWl
    clear hD hDl hownW hbW hWl
    go_wp2_with fail
    go_loopw [4, 29] (fun v i wr => ∃ j : Nat, j ≤ W.length ∧ i = .int .i64 j ∧ OwnB wr w1.heap.size v (D ++ (W.take j).flatMap be4) ∧ RdI .u32 wr a3 W.length W ∧ (∀ b off, a3 = some ⟨b, off, none⟩ → v.ownBlock ≠ some b) ∧ Below w1.heap.size w1 wr) (fun _ i _ => W.length - (intOf i).toNat)
    case atStart => exact ⟨0, by omega, rfl, hownD, hrd, haway, hbc⟩
    case round =>
      obtain ⟨j, hj, rfl, hown, hrdr, haw, hb⟩ := hrel
      have hsr := hb.size
      by_cases hlt : j < W.length
      · obtain ⟨b, off, rfl, hblt, hc⟩ := hrdr.at_ hlt
        obtain ⟨x, hx⟩ : ∃ x, W.getD j 0 = x := ⟨_, rfl⟩
        rw [hx] at hc
        have HX := Lib.hid hx
        have HAW := Lib.hid haw
        have hlen := Lib.hid (HLN.out j)
        have hWW := HWl.out
        clear hx haw hownD hrd haway hbc
        go_wp2_with (at_builtin; refine wpList_appB infoB rfl (.tmp 33) (.tmp 45) 67 rfl Tryd.underlying67 w1.heap.size _ _ rfl (OwnB.below hown ((Below.refl _ _).alloc (Nat.le_refl _) _)) _ 4 4 [_, _, _, _] rfl (rdI_lit4_at _ _ _ _ _ _ _ _ (by simp)) (by decide) hlen.out (by simp <;> omega) ?_)
        intro v' w5 hown' hgrow hor
        have hown2 : OwnB w5 w1.heap.size v' (D ++ (W.take (j + 1)).flatMap be4) := by
          rw [take_succ' W 0 j hlt, HX.out, List.flatMap_append, List.flatMap_cons, List.flatMap_nil, List.append_nil]
          simpa [be4] using hown'
        have hb2 := ownB_grown (hb.alloc hsr _) (by simp <;> omega) hgrow (OwnB.below hown ((Below.refl _ _).alloc (Nat.le_refl _) _))
        have hrd2 := rdI_grown (hrdr.below ((Below.refl _ _).alloc (Nat.le_refl _) _)) hgrow HAW.out
        have haw2 : ∀ b' off', some (⟨b, off, none⟩ : Addr) = some ⟨b', off', none⟩ → v'.ownBlock ≠ some b' := by
          intro b' off' e hv
          cases e
          rcases hor with h | h
          · exact HAW.out b off rfl (h ▸ hv)
          · rw [h] at hv
            simp only [Option.some.injEq] at hv
            omega
        clear hown' hgrow hor hown hrdr hb
        go_wp2_with fail
        go_roundw
        case rel => exact ⟨j + 1, by omega, by go_num, hown2, hrd2, haw2, hb2⟩
        case measure => simp [intOf]; omega
      · have hjn : j = W.length := by omega
        subst hjn
        rw [List.take_of_length_le (Nat.le_refl _)] at hown
        obtain ⟨L, hL⟩ : ∃ L, D ++ W.flatMap be4 = L := ⟨_, rfl⟩
        rw [hL] at hown
        have hL0 : 0 < L.length := by
          rw [← hL, List.length_append, be4_length, HW.out, List.length_append]
          simp only [List.length_singleton]
          omega
        have HRES : Hid (L = bytesI ⟨(k : Int), sq, n, ps, mr, list, self, data⟩) := Lib.hid (by
          rw [← hL, HD.out]
          unfold bytesI dataI
          rw [HZP.out, HW.out, HX0.out, HW0.out]
          rfl)
        obtain ⟨ab, capb, rfl, _, hr8⟩ := hown.form
        obtain ⟨bb, ob, rfl, _, hcb⟩ := hr8.2 hL0
        have hconv := run_convert_bytes_arg (P := Tryd.prog) wr 67 5 Tryd.underlying67 Tryd.underlying5 bb ob L.length capb L rfl hcb 9 Tryd.underlying9
        have hfin := HB2.out.trans (hb.mono (Nat.le_of_lt HS1.out))
        clear hL hL0 hown hr8 hcb hrdr haw
        go_wp2_with fail
        go_ret
        exact ⟨by rw [← HRES.out]; rfl, hfin⟩

theorem bytes_bad (k : Nat) (a : Option Addr) (cap : Nat) (sq n ps mr : Int) (list : List Int) (self : Bool) (data : ByteArray) (w : World) (hF : Forms w) (hv : Nums .u32 w (.slice a list.length cap) list)
    (hc : checkU ⟨k, sq, n, ps, mr, list, self, data⟩ ≠ 0) :
    Calls Tryd.prog 10 #[.agg #[.int .i64 (k : Int), .int .i64 sq, .int .u32 n, .int .u32 ps, .int .u32 mr, .slice a list.length cap, .bool self, .string data]] w fun e w' => e = .returned (.string ⟨#[]⟩) ∧ Below w.heap.size w w' := by
  have hF1 := Lib.hid (hF.alloc (.cells #[.int .i64 (k : Int), .int .i64 sq, .int .u32 n, .int .u32 ps, .int .u32 mr, .slice a list.length cap, .bool self, .string data] 32))
  have hv1 := Lib.hid (hv.alloc (.cells #[.int .i64 (k : Int), .int .i64 sq, .int .u32 n, .int .u32 ps, .int .u32 mr, .slice a list.length cap, .bool self, .string data] 32))
  obtain ⟨c, hcd⟩ : ∃ c, checkU ⟨k, sq, n, ps, mr, list, self, data⟩ = c := ⟨_, rfl⟩
  rw [hcd] at hc
  have HCD := Lib.hid hcd
  clear hF hv hcd
  go_enter Tryd.func10, Tryd.ntmps10
  go_wp2_with fail
  refine (check_any ⟨k, sq, n, ps, mr, list, self, data⟩ (.slice a list.length cap) _ hF1.out hv1.out).mono ?_
  rintro e w1 ⟨rfl, hb1⟩
  rw [HCD.out]
  have hfin : Below w.heap.size w w1 := ((Below.refl w.heap.size w).alloc (Nat.le_refl _) _).trans (hb1.mono (by simp))
  clear hb1
  go_wp2_with fail
  go_ret
  exact ⟨rfl, hfin⟩
end Go.Proofs.YtaappdaolenkiaaDoor.Pdu
