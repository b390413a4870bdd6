/-
  The laws' own steps over units: what the law is given, cut down; what the program answers of it.
-/
import Derived.Test.YtaappdaolenkiaaDoorPduSame
import Derived.Test.YtaappdaolenkiaaDoorPduParse2
import Derived.Test.YtaappdaolenkiaaDoorPduTurn
import Derived.Test.YtaappdaolenkiaaDoorPduRef3
import Derived.Test.YtaappdaolenkiaaDoorRead
namespace Go.Proofs.YtaappdaolenkiaaDoor.Pdu
open Go.ChangeShapes Go.WideShapes Go.RowKit Own

def valD : Base.Dat → Int
  | .int z => z
  | _ => 0
abbrev shpU : Base.Shp := .struct [.int .i64, .int .i64, .int .i64, .int .i64, .int .i64, .slice (.int .i64), .bool, .str]
theorem open_pdu (w : World) (v : Value) (x : Base.Dat) (h : Base.RdV w shpU x v) :
    ∃ k sq n ps mr a cap L self data, v = .agg (aggR k sq n ps mr (.slice a (List.length L) cap) self data) ∧ RdI .i64 w a L.length L ∧ L.length ≤ 140737488351232 := by
  obtain ⟨cs, rfl, h⟩ := h
  obtain ⟨l, rfl, h⟩ := Base.rd_struct h
  obtain ⟨d0, r, c0, c, rfl, rfl, h0, h⟩ := Base.rdAll_cons h
  obtain ⟨d1, r, c1, c, rfl, rfl, h1, h⟩ := Base.rdAll_cons h
  obtain ⟨d2, r, c2, c, rfl, rfl, h2, h⟩ := Base.rdAll_cons h
  obtain ⟨d3, r, c3, c, rfl, rfl, h3, h⟩ := Base.rdAll_cons h
  obtain ⟨d4, r, c4, c, rfl, rfl, h4, h⟩ := Base.rdAll_cons h
  obtain ⟨d5, r, c5, c, rfl, rfl, h5, h⟩ := Base.rdAll_cons h
  obtain ⟨d6, r, c6, c, rfl, rfl, h6, h⟩ := Base.rdAll_cons h
  obtain ⟨d7, r, c7, c, rfl, rfl, h7, h⟩ := Base.rdAll_cons h
  obtain ⟨rfl, rfl⟩ := Base.rdAll_nil h
  obtain ⟨z0, rfl, rfl, _⟩ := Base.rd_int h0
  obtain ⟨z1, rfl, rfl, _⟩ := Base.rd_int h1
  obtain ⟨z2, rfl, rfl, _⟩ := Base.rd_int h2
  obtain ⟨z3, rfl, rfl, _⟩ := Base.rd_int h3
  obtain ⟨z4, rfl, rfl, _⟩ := Base.rd_int h4
  obtain ⟨l, a, cap, rfl, rfl, hl, hr⟩ := Base.rd_slice h5
  obtain ⟨b6, rfl, rfl⟩ := Base.rd_bool h6
  obtain ⟨s7, rfl, rfl, _⟩ := Base.rd_str h7
  refine ⟨z0, z1, z2, z3, z4, a, cap, l.map valD, b6, s7, by simp, ⟨rfl, fun hn => ?_⟩, by simpa using hl⟩
  rcases hr with rfl | ⟨b, off, rfl, hb, hc⟩
  · simp at hn
  · refine ⟨b, off, rfl, hb, fun i hi => ?_⟩
    have hi' : i < l.length := by simpa using hi
    obtain ⟨es, hes, hcell, hrd⟩ := hc i hi'
    obtain ⟨z, e1, rfl, _⟩ := Base.rd_int hrd
    have h0 := hcell 0 (by decide)
    have e2 : (l.map valD).getD i 0 = z := by
      rw [List.getD_eq_getElem?_getD, List.getElem?_map]
      rw [List.getD_eq_getElem?_getD] at e1
      rw [List.getElem?_eq_getElem hi'] at e1 ⊢
      simp only [Option.getD_some] at e1
      simp [e1, valD]
    rw [e2]
    simpa [Base.Shp.size] using h0
theorem clamp_clamp (x : Int) : clampU (clampU x) = clampU x := by have := clampU_bounds x; unfold clampU at *; omega
theorem clamp_of {x : Int} (h : 0 ≤ x ∧ x ≤ 4294967295) : clampU x = x := by unfold clampU; omega
theorem few_clamp (L : List Int) : (fewL L).map clampU = fewL L := by
  unfold fewL
  rw [List.map_map]
  exact List.map_congr_left fun x _ => clamp_clamp x
theorem fewL_len (L : List Int) : (fewL L).length ≤ 140 := by unfold fewL; simp; omega
theorem fewL_bounds (L : List Int) : ∀ z ∈ fewL L, 0 ≤ z ∧ z ≤ 4294967295 := by
  intro z hz
  unfold fewL at hz
  obtain ⟨y, _, rfl⟩ := List.mem_map.1 hz
  exact clampU_bounds y
/-- what a law makes of the unit it is given -/
def fewU (k sq n ps mr : Int) (L : List Int) (self : Bool) (data : ByteArray) : U := ⟨k, sq, clampU n, clampU ps, clampU mr, fewL L, self, cutL data 210⟩
theorem owned {τ : TypeId} {κ : IntKind} {w : World} {base : Nat} {v : Value} {L : List Int} (h : OwnI κ τ w base v L) : ∃ a cap, v = .slice a L.length cap ∧ RdI κ w a L.length L := by
  obtain ⟨a, n, cap, rfl, _, h2⟩ := h.form
  obtain rfl := h2.1
  exact ⟨a, cap, rfl, h2⟩
theorem nums_rd {w : World} {a : Option Addr} {cap : Nat} {L : List Int} (h2 : RdI .u32 w a L.length L) (hl : L.length ≤ 100000) (hb : ∀ z ∈ L, 0 ≤ z ∧ z ≤ 4294967295) : Nums .u32 w (.slice a L.length cap) L := by
  refine ⟨a, cap, rfl, by omega, fun z hz => WalkArith.wf_u32 (hb z hz), ?_⟩
  rcases Nat.eq_zero_or_pos L.length with h0 | h0
  · exact .inl (List.eq_nil_of_length_eq_zero h0)
  · obtain ⟨b, off, e, hlt, hc⟩ := h2.2 h0
    exact .inr ⟨b, off, e, hlt, hc⟩
theorem bytes_badI (k : Int) (a : Option Addr) (cap : Nat) (sq n ps mr : Int) (list : List Int) (self : Bool) (data : ByteArray) (w : World) (hF : Forms w) (hv : Nums .u32 w (.slice a list.length cap) list)
    (hc : checkU ⟨k, sq, n, ps, mr, list, self, data⟩ ≠ 0) :
    Calls Tryd.prog 10 #[.agg #[.int .i64 k, .int .i64 sq, .int .u32 n, .int .u32 ps, .int .u32 mr, .slice a list.length cap, .bool self, .string data]] w fun e w' => e = .returned (.string ⟨#[]⟩) ∧ Below w.heap.size w w' := by
  have hF1 := Lib.hid (hF.alloc (.cells #[.int .i64 k, .int .i64 sq, .int .u32 n, .int .u32 ps, .int .u32 mr, .slice a list.length cap, .bool self, .string data] 32))
  have hv1 := Lib.hid (hv.alloc (.cells #[.int .i64 k, .int .i64 sq, .int .u32 n, .int .u32 ps, .int .u32 mr, .slice a list.length cap, .bool self, .string data] 32))
  obtain ⟨c, hcd⟩ : ∃ c, checkU ⟨k, sq, n, ps, mr, list, self, data⟩ = c := ⟨_, rfl⟩
  rw [hcd] at hc
  have HCD := Lib.hid hcd
  clear hF hv hcd
  go_enter Tryd.func10, Tryd.ntmps10
  go_wp2_with fail
  refine (check_any ⟨k, sq, n, ps, mr, list, self, data⟩ (.slice a list.length cap) _ hF1.out hv1.out).mono ?_
  rintro e w1 ⟨rfl, hb1⟩
  rw [HCD.out]
  have hfin : Below w.heap.size w w1 := ((Below.refl w.heap.size w).alloc (Nat.le_refl _) _).trans (hb1.mono (by simp))
  clear hb1
  go_wp2_with fail
  go_ret
  exact ⟨rfl, hfin⟩
theorem bytesV (k sq n ps mr : Int) (a : Option Addr) (m cap : Nat) (L : List Int) (self : Bool) (data : ByteArray) (w : World) (hF : Forms w) (hv : RdI .u32 w a m L) (hl : m ≤ 100000) (hb : ∀ z ∈ L, 0 ≤ z ∧ z ≤ 4294967295) (hn0 : 0 ≤ n) :
    Calls Tryd.prog 10 #[.agg (aggU k sq n ps mr (.slice a m cap) self data)] w fun e w' => e = .returned (.string (bytesU ⟨k, sq, n, ps, mr, L, self, data⟩)) ∧ Below w.heap.size w w' := by
  obtain rfl := hv.1
  have hv := nums_rd (cap := cap) hv hl hb
  by_cases hc : checkU ⟨k, sq, n, ps, mr, L, self, data⟩ = 0
  · obtain ⟨k', hk0, _⟩ := check_ok _ hc
    simp only at hk0
    subst hk0
    exact (bytes_ok k' a cap sq n ps mr L self data w hF hv hn0 hc).mono (by rintro e w' ⟨rfl, h⟩; exact ⟨by rw [bytesU, if_pos hc], h⟩)
  · exact (bytes_badI k a cap sq n ps mr L self data w hF hv hc).mono (by rintro e w' ⟨rfl, h⟩; exact ⟨by rw [bytesU, if_neg hc], h⟩)
theorem checkV (k sq n ps mr : Int) (a : Option Addr) (m cap : Nat) (L : List Int) (self : Bool) (data : ByteArray) (w : World) (hF : Forms w) (hv : RdI .u32 w a m L) (hl : m ≤ 100000) (hb : ∀ z ∈ L, 0 ≤ z ∧ z ≤ 4294967295) :
    Calls Tryd.prog 9 #[.agg (aggU k sq n ps mr (.slice a m cap) self data)] w fun e w' => e = .returned (.int .i64 (checkU ⟨k, sq, n, ps, mr, L, self, data⟩)) ∧ Below w.heap.size w w' := by
  obtain rfl := hv.1
  exact check_any ⟨k, sq, n, ps, mr, L, self, data⟩ (.slice a L.length cap) w hF (nums_rd hv hl hb)
theorem be4_len' (x : Int) : (be4 x).length = 4 := by simp [be4]
theorem bytes_len (u : U) (h : checkU u = 0) : ((bytesU u).size : Int) = ((u.data.size : Int) + 3) / 4 * 4 + 4 * (1 + (u.list.length : Int) + (if hasSQ u.kind then 1 else 0) + (if u.kind = 10 ∨ u.kind = 11 then 1 else 0) + (if u.kind = 11 ∨ u.kind = 12 then 1 else 0)) := by
  obtain ⟨k, hk, h1, h2, _⟩ := check_ok _ h
  rw [bytesU, if_pos h, bytes_parts u k hk h1 h2, str_size, List.length_append, be4_len']
  unfold partM partP partL partQ part0
  rw [List.take_length]
  simp only [List.length_append, List.length_replicate, be4_length, apply_ite List.length, be4_len', List.length_nil]
  have hd : (dataI u.data).length = u.data.size := by simp [dataI]
  rw [hd]
  have hp : padU u = (4 - u.data.size % 4) % 4 := rfl
  rw [hp]
  split <;> split <;> split <;> simp <;> omega
theorem own_few (k sq n ps mr : Int) (a : Option Addr) (m cap : Nat) (L : List Int) (self : Bool) (data : ByteArray) (w : World) (hL : RdI .i64 w a m L) (hm : m ≤ 1000)
    (hn : 0 ≤ n ∧ n ≤ 4294967295) (hps : 0 ≤ ps ∧ ps ≤ 4294967295) (hmr : 0 ≤ mr ∧ mr ≤ 4294967295) (hl : ∀ z ∈ L, 0 ≤ z ∧ z ≤ 4294967295) :
    Calls Tryd.prog 6 #[.agg (aggR k sq n ps mr (.slice a m cap) self data)] w fun e w' =>
      ∃ a2 cap2, e = .returned (.agg (aggU k sq n ps mr (.slice a2 m cap2) self data)) ∧ RdI .u32 w' a2 m L ∧ Below w.heap.size w w' := by
  refine (own_any k sq n ps mr a m cap L self data w hL hm).mono ?_
  rintro e w' ⟨lv, rfl, ho, hb⟩
  have e1 : L.map clampU = L := by
    conv => rhs; rw [← List.map_id L]
    exact List.map_congr_left fun x hx => clamp_of (hl x hx)
  rw [e1] at ho
  obtain ⟨a2, cap2, rfl, hr⟩ := owned ho
  refine ⟨a2, cap2, ?_, ?_, hb⟩
  · rw [clamp_of hn, clamp_of hps, clamp_of hmr, hL.1]
  · rw [hL.1]; exact hr
theorem few_at {w W1 W2 : World} {g : Nat} {k sq n ps mr k' sq' n' ps' mr' : Int} {a a2 : Option Addr} {m cap cap2 : Nat} {L L2 : List Int} {sf sf' : Bool} {d d' : ByteArray} (h : RAt w W1 g k sq n ps mr a m cap L sf d)
    (ho : OwnI .i64 3 W2 W1.heap.size (.slice a2 L2.length cap2) L2) (hb : Below W1.heap.size W1 W2) :
    RAt w (W2.setRow g (aggR k' sq' n' ps' mr' (.slice a2 L2.length cap2) sf' d')) g k' sq' n' ps' mr' a2 L2.length cap2 L2 sf' d' := by
  have h2 := h.below hb
  refine ⟨setRow_heap _ _ _ _ _ _ h2.blk, ?_, below_setRow h2.bel (Nat.le_refl _) _⟩
  have h3 := own_setRow (cs := aggR k' sq' n' ps' mr' (.slice a2 L2.length cap2) sf' d') ho h.lt
  obtain ⟨a3, c3, e, hr3⟩ := owned h3
  cases e
  exact hr3
end Go.Proofs.YtaappdaolenkiaaDoor.Pdu
