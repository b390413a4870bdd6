/-
  The pace: the fixed fact, and the arguments of its laws.
-/
import Derived.Test.YtlfjndjbfbejkaaPace9
import Derived.Test.YtlfjndjbfbejkaaRead
namespace Go.Proofs.Ytlfjndjbfbejkaa.Pace
open Go.RowKit View Bank AppAt

theorem rd_ints {W : World} {v : Value} {L : List Int} (h : Base.IntSlice .i64 8 W v L) : ∃ a cap, v = .slice a L.length cap ∧ RdI W a L.length L ∧ (∀ z ∈ L, -9223372036854775808 ≤ z ∧ z ≤ 9223372036854775807) ∧ L.length ≤ 281474976710656 := by
  obtain ⟨a, cap, rfl, hl, hw, hc⟩ := h
  refine ⟨a, cap, rfl, ⟨rfl, fun hn => ?_⟩, fun z hz => bounds_i64 (hw z hz), by omega⟩
  rcases hc with rfl | ⟨b, off, rfl, hb, hc⟩
  · simp at hn
  · exact ⟨b, off, rfl, hb, hc⟩
def Acts (w : World) (a : Option Addr) (n : Nat) (D : List (Int × Bool)) : Prop :=
  n = D.length ∧ (0 < n → ∃ b off, a = some ⟨b, off, none⟩ ∧ b < w.heap.size ∧ ∀ i, i < n → w.cell? ⟨b, off + i * 2, none⟩ = some (.int .i64 (D.getD i (0, false)).1) ∧
    w.cell? ⟨b, off + i * 2 + 1, none⟩ = some (.bool (D.getD i (0, false)).2))
theorem open_acts (w : World) (v : Value) (x : Base.Dat) (h : Base.RdV w (.slice (.struct [.int .i64, .bool])) x v) : ∃ a n cap D, v = .slice a n cap ∧ Acts w a n D ∧ n ≤ 140737488351232 := by
  obtain ⟨l, a, cap, rfl, h1, h2, h3⟩ := Base.rd_slice h
  simp only [List.cons.injEq, and_true] at h1
  subst h1
  rcases h3 with rfl | ⟨b, off, rfl, hb, h3⟩
  · exact ⟨a, 0, cap, [], rfl, ⟨rfl, fun h => absurd h (Nat.lt_irrefl _)⟩, h2⟩
  · have each : ∀ i, i < l.length → ∃ y : Int × Bool, w.cell? ⟨b, off + i * 2, none⟩ = some (.int .i64 y.1) ∧ w.cell? ⟨b, off + i * 2 + 1, none⟩ = some (.bool y.2) := by
      intro i hi
      obtain ⟨es, _, h4, h5⟩ := h3 i hi
      obtain ⟨l', _, h5⟩ := Base.rd_struct h5
      obtain ⟨d0, r, c0, c, rfl, rfl, g0, h5⟩ := Base.rdAll_cons h5
      obtain ⟨d1, r, c1, c, rfl, rfl, g1, h5⟩ := Base.rdAll_cons h5
      obtain ⟨rfl, rfl⟩ := Base.rdAll_nil h5
      obtain ⟨z0, rfl, rfl, _⟩ := Base.rd_int g0
      obtain ⟨z1, rfl, rfl⟩ := Base.rd_bool g1
      exact ⟨(z0, z1), h4 0 (by decide), h4 1 (by decide)⟩
    have hex : ∃ F : Nat → Int × Bool, ∀ i, i < l.length → w.cell? ⟨b, off + i * 2, none⟩ = some (.int .i64 (F i).1) ∧ w.cell? ⟨b, off + i * 2 + 1, none⟩ = some (.bool (F i).2) := by
      refine ⟨fun i => if h : i < l.length then Classical.choose (each i h) else (0, false), fun i hi' => ?_⟩
      simp only [dif_pos hi']
      exact Classical.choose_spec (each i hi')
    obtain ⟨F, hF⟩ := hex
    refine ⟨_, l.length, cap, (List.range l.length).map F, rfl, ⟨by simp, fun _ => ⟨b, off, rfl, hb, fun i hi => ?_⟩⟩, h2⟩
    have hg : ((List.range l.length).map F).getD i (0, false) = F i := by simp [List.getD, hi]
    rw [hg]
    exact hF i hi
theorem Acts.below {w w' : World} {a : Option Addr} {n : Nat} {D : List (Int × Bool)} (h : Acts w a n D) (hb : Below w.heap.size w w') : Acts w' a n D :=
  ⟨h.1, fun hn => by
    obtain ⟨b, off, e, hlt, hc⟩ := h.2 hn
    exact ⟨b, off, e, Nat.lt_of_lt_of_le hlt hb.size, fun i hi => ⟨(View.cell_below hb hlt).trans (hc i hi).1, (View.cell_below hb hlt).trans (hc i hi).2⟩⟩⟩
def Bools (w : World) (a : Option Addr) (n : Nat) (D : List Bool) : Prop :=
  n = D.length ∧ (0 < n → ∃ b off, a = some ⟨b, off, none⟩ ∧ b < w.heap.size ∧ ∀ i, i < n → w.cell? ⟨b, off + i, none⟩ = some (.bool (D.getD i false)))
theorem open_bools (w : World) (v : Value) (x : Base.Dat) (h : Base.RdV w (.slice .bool) x v) : ∃ a n cap D, v = .slice a n cap ∧ Bools w a n D ∧ n ≤ 140737488351232 := by
  obtain ⟨l, a, cap, rfl, h1, h2, h3⟩ := Base.rd_slice h
  simp only [List.cons.injEq, and_true] at h1
  subst h1
  rcases h3 with rfl | ⟨b, off, rfl, hb, h3⟩
  · exact ⟨a, 0, cap, [], rfl, ⟨rfl, fun h => absurd h (Nat.lt_irrefl _)⟩, h2⟩
  · have each : ∀ i, i < l.length → ∃ y : Bool, w.cell? ⟨b, off + i, none⟩ = some (.bool y) := by
      intro i hi
      obtain ⟨es, _, h4, h5⟩ := h3 i hi
      obtain ⟨z1, _, rfl⟩ := Base.rd_bool h5
      have := h4 0 (by decide)
      exact ⟨z1, by simpa [Base.Shp.size] using this⟩
    have hex : ∃ F : Nat → Bool, ∀ i, i < l.length → w.cell? ⟨b, off + i, none⟩ = some (.bool (F i)) := by
      refine ⟨fun i => if h : i < l.length then Classical.choose (each i h) else false, fun i hi' => ?_⟩
      simp only [dif_pos hi']
      exact Classical.choose_spec (each i hi')
    obtain ⟨F, hF⟩ := hex
    refine ⟨_, l.length, cap, (List.range l.length).map F, rfl, ⟨by simp, fun _ => ⟨b, off, rfl, hb, fun i hi => ?_⟩⟩, h2⟩
    have hg : ((List.range l.length).map F).getD i false = F i := by simp [List.getD, hi]
    rw [hg]
    exact hF i hi
theorem Bools.below {w w' : World} {a : Option Addr} {n : Nat} {D : List Bool} (h : Bools w a n D) (hb : Below w.heap.size w w') : Bools w' a n D :=
  ⟨h.1, fun hn => by
    obtain ⟨b, off, e, hlt, hc⟩ := h.2 hn
    exact ⟨b, off, e, Nat.lt_of_lt_of_le hlt hb.size, fun i hi => (View.cell_below hb hlt).trans (hc i hi)⟩⟩
set_option maxRecDepth 100000 in
set_option maxHeartbeats 4000000 in
theorem pawake_any (w : World) : Calls Try.prog 7 #[] w fun e w' => e = .returned (.bool true) ∧ Below w.heap.size w w' := by
  go_enter Try.func7, Try.ntmps7
  go_wp2_with fail
  refine (new_any 3 2 5 9 4 _ ⟨rfl, by decide, by decide, by decide⟩).mono ?_; rintro e w1 ⟨B, rfl, hB, h1, hb1⟩
  have HB := Lib.hid hB
  have HB1 := Lib.hid hb1
  have HA1 := Lib.hid h1
  clear hB h1 hb1
  go_wp2_with fail
  refine (begin_any B _ _ _ HA1.out).mono ?_; rintro e w2 ⟨⟨v2, rfl⟩, h2, ho⟩
  have HA2 : Hid (At w2 B [3, 2, 5, 9, 4] [0, 2, 0, 9, 0]) := Lib.hid h2
  have HB2 := Lib.hid (ho.below HB1.out HB1.out.size HB.out)
  clear h2 ho HA1 HB1
  go_wp2_with fail
  refine (tick_at B _ _ _ HA2.out).mono ?_; rintro e w3 ⟨v3, rfl, _, h3, ho⟩
  have HA3 : Hid (At w3 B [3, 2, 5, 9, 4] [0, 1, 0, 8, 0]) := Lib.hid h3
  have HB3 := Lib.hid (ho.below HB2.out HB2.out.size HB.out)
  clear h3 ho HA2 HB2
  go_wp2_with fail
  refine (tick_at B _ _ _ HA3.out).mono ?_; rintro e w4 ⟨v4, rfl, hv, h4, ho⟩
  have HA4 : Hid (At w4 B [3, 2, 5, 9, 4] [0, 0, 0, 7, 0]) := Lib.hid h4
  have HB4 := Lib.hid (ho.below HB3.out HB3.out.size HB.out)
  have hov : oversL [0, 1, 0, 8, 0] = [1] := by decide
  rw [hov] at hv
  have HV := Lib.hid hv
  obtain ⟨a, n, c, rfl, _, hr⟩ := hv.form
  have HR := Lib.hid hr
  obtain rfl : n = 1 := hr.1
  have HLT : Hid (B < w3.heap.size) := Lib.hid HA3.out.lt
  clear h4 ho HA3 HB3 hv hr hov
  go_wp2_with fail
  refine (polled_any B _ _ _ true HA4.out).mono ?_; rintro e w5 ⟨⟨v5, rfl⟩, h5, ho⟩
  have HA5 : Hid (At w5 B [3, 2, 5, 9, 4] [0, 0, 5, 7, 0]) := Lib.hid h5
  have HB5 := Lib.hid (ho.below HB4.out HB4.out.size HB.out)
  have HR5 := Lib.hid (rd_own_only HV.out HR.out ho HLT.out)
  clear h5 ho HA4 HB4 HR
  go_wp2_with fail
  refine (answered_any B _ _ _ true HA5.out).mono ?_; rintro e w6 ⟨⟨v6, rfl⟩, h6, ho⟩
  have HA6 : Hid (At w6 B [3, 2, 5, 9, 4] [0, 0, 0, 0, 4]) := Lib.hid h6
  have HB6 := Lib.hid (ho.below HB5.out HB5.out.size HB.out)
  have HR6 := Lib.hid (rd_own_only HV.out HR5.out ho HLT.out)
  clear h6 ho HA5 HB5 HR5
  obtain ⟨b, off, rfl, _, hc⟩ := HR6.out.at_ (k := 0) (by decide)
  rw [Nat.add_zero] at hc
  simp only [List.getD_cons_zero] at hc
  go_wp2_with fail
  refine (left_at B _ _ _ 4 4 rfl (by decide) HA6.out).mono ?_; rintro e w' ⟨rfl, rfl⟩
  go_wp2_with fail
  refine (runs_at B _ _ _ 3 3 rfl (by decide) HA6.out).mono ?_; rintro e w' ⟨rfl, rfl⟩
  go_wp2_with fail
  refine (asks_any _ 4 _).mono ?_; rintro e w' ⟨rfl, rfl⟩
  rw [show asksL 4 = true from by decide]
  go_wp2_with fail
  refine (safe_any B _ _ _ HA6.out).mono ?_; rintro e w' ⟨rfl, q, rfl⟩
  go_wp2_with fail
  go_ret
  exact ⟨by first | rfl | decide, View.below_drewN HB6.out q⟩
end Go.Proofs.Ytlfjndjbfbejkaa.Pace
