/-
  Units: bytes are read: the unit, or what is wrong.
-/
import Derived.Test.YtaappdaolenkiaaDoorPduParse
import Derived.Laws.BitsLemmas
import Derived.Laws.CopyOwn
namespace Go.Proofs.YtaappdaolenkiaaDoor.Pdu
open Go.ChangeShapes Go.WideShapes Go.RowKit Own

theorem mask24 (a : Int) (h1 : 0 ≤ a) (h2 : a < 4294967296) : bits .and .u32 a 16777215 = a % 16777216 := by
  rw [u32_and a 16777215 h1 h2 (by omega) (by omega)]
  have : a.toNat &&& (16777215 : Int).toNat = a.toNat % 16777216 := nat_mask24 _
  rw [this]; omega
theorem mask4 (a : Int) (h1 : 0 ≤ a) (h2 : a < 4294967296) : bits .and .u32 a 15 = a % 16 := by
  rw [u32_and a 15 h1 h2 (by omega) (by omega)]
  have : a.toNat &&& (15 : Int).toNat = a.toNat % 16 := Nat.and_two_pow_sub_one_eq_mod a.toNat 4
  rw [this]; omega
theorem mask1 (a : Int) (h1 : 0 ≤ a) (h2 : a < 4294967296) : bits .and .u32 a 1 = a % 2 := by
  rw [u32_and a 1 h1 h2 (by omega) (by omega)]
  have : a.toNat &&& (1 : Int).toNat = a.toNat % 2 := Nat.and_two_pow_sub_one_eq_mod a.toNat 1
  rw [this]; omega
theorem low_any (a : Int) (w : World) (h1 : 0 ≤ a) (h2 : a < 4294967296) :
    Calls Tryd.prog 32 #[.int .u32 a] w fun e w' => e = .returned (.int .u32 (a % 16777216)) ∧ w = w' := by
  go_enter Tryd.func32, Tryd.ntmps32
  go_wp2
  go_ret
  exact ⟨ret_int (mask24 a h1 h2), rfl⟩

theorem gotU_size (k : Nat) (st : St) : (gotU k st).rest.1.size ≤ st.1.size := by
  unfold gotU
  split
  · exact Nat.le_refl _
  · split
    · exact takeW_size st
    · split
      · exact Nat.le_trans (takeN_size _ _) (Nat.le_trans (takeW_size _) (takeW_size _))
      · split
        · exact Nat.le_trans (takeN_size _ _) (takeW_size _)
        · exact takeW_size st

theorem takeN_bounds (n : Nat) (st : St) : ∀ z ∈ (takeN n st).1, 0 ≤ z ∧ z ≤ 4294967295 := by
  induction n with
  | zero => intro z hz; simp [takeN] at hz
  | succ n ih =>
    intro z hz
    rw [takeN, List.mem_append, List.mem_singleton] at hz
    rcases hz with hz | rfl
    · exact ih z hz
    · exact takeW_bounds _
theorem gotU_list (k : Nat) (st : St) (hm : st.1.size ≤ 100000) : (gotU k st).list.length ≤ 100000 ∧ ∀ z ∈ (gotU k st).list, 0 ≤ z ∧ z ≤ 4294967295 := by
  unfold gotU
  split
  · exact ⟨by simp [gotO], by simp [gotO]⟩
  · split
    · exact ⟨by simp [gotP], by simp [gotP]⟩
    · split
      · simp only [gotB, List.length_reverse, takeN_length, List.mem_reverse]
        refine ⟨?_, takeN_bounds _ _⟩
        have h1 := takeW_size (takeW st).2
        have h2 := takeW_size st
        omega
      · split
        · simp only [gotM, List.length_reverse, takeN_length, List.mem_reverse]
          exact ⟨by omega, takeN_bounds _ _⟩
        · exact ⟨by simp [gotS], by simp [gotS]⟩
theorem grown_row2 (w : World) (g : Nat) (cs : Array Value) : w.grownBy (w.setRow g cs) (some g) :=
  ⟨rfl, rfl, rfl, by simp, fun k _ hk => setRow_other w g k cs (fun e => hk (by rw [e]))⟩
theorem nums_own {τ : TypeId} {w : World} {base : Nat} {v : Value} {L : List Int} (h : OwnI .u32 τ w base v L) (hl : L.length ≤ 100000) (hb : ∀ z ∈ L, 0 ≤ z ∧ z ≤ 4294967295) : ∃ a cap, v = .slice a L.length cap ∧ Nums .u32 w (.slice a L.length cap) L := by
  obtain ⟨a, n, cap, rfl, _, h2⟩ := h.form
  have h3 := h2.1
  subst h3
  refine ⟨a, cap, rfl, a, cap, rfl, by omega, fun z hz => WalkArith.wf_u32 (hb z hz), ?_⟩
  rcases Nat.eq_zero_or_pos L.length with h0 | h0
  · exact .inl (List.eq_nil_of_length_eq_zero h0)
  · obtain ⟨b, off, e, hlt, hc⟩ := h2.2 h0
    exact .inr ⟨b, off, e, hlt, hc⟩
theorem bytes_any (k : Nat) (a : Option Addr) (cap : Nat) (sq n ps mr : Int) (list : List Int) (self : Bool) (data : ByteArray) (w : World) (hF : Forms w) (hv : Nums .u32 w (.slice a list.length cap) list) (hn0 : 0 ≤ n) :
    Calls Tryd.prog 10 #[.agg #[.int .i64 (k : Int), .int .i64 sq, .int .u32 n, .int .u32 ps, .int .u32 mr, .slice a list.length cap, .bool self, .string data]] w fun e w' => e = .returned (.string (bytesU ⟨k, sq, n, ps, mr, list, self, data⟩)) ∧ Below w.heap.size w w' := by
  by_cases hc : checkU ⟨k, sq, n, ps, mr, list, self, data⟩ = 0
  · rw [show bytesU ⟨k, sq, n, ps, mr, list, self, data⟩ = _ from if_pos hc]
    exact bytes_ok k a cap sq n ps mr list self data w hF hv hn0 hc
  · rw [show bytesU ⟨k, sq, n, ps, mr, list, self, data⟩ = _ from if_neg hc]
    exact bytes_bad k a cap sq n ps mr list self data w hF hv hc

/-! ### what is read of a text -/
def lastW (s : ByteArray) : Int := (takeW (s, false)).1
def kindP (s : ByteArray) : Nat := (lastW s / 16777216 % 16).toNat
def selfP (s : ByteArray) : Bool := lastW s / 536870912 % 2 == 1
def nP (s : ByteArray) : Int := lastW s % 16777216
def padP (s : ByteArray) : Nat := (lastW s / 1073741824).toNat
def gotP' (s : ByteArray) : Got := gotU (kindP s) (takeW (s, false)).2
def unitP (s : ByteArray) : U := ⟨kindP s, (gotP' s).sq, nP s, (gotP' s).ps, (gotP' s).mr, (gotP' s).list, selfP s, (gotP' s).rest.1.extract 0 ((gotP' s).rest.1.size - padP s)⟩
def codeP (s : ByteArray) : Int :=
  if s.size = 0 ∨ s.size % 4 ≠ 0 then 5 else if kindP s = 0 then 10 else if (gotP' s).rest.2 = true ∨ (gotP' s).rest.1.size < padP s then 5
  else if checkU (unitP s) = 6 then 6 else if bytesU (unitP s) ≠ s then 3 else 0

theorem word_facts (s : ByteArray) : 0 ≤ lastW s ∧ lastW s ≤ 4294967295 ∧ (kindP s : Int) = lastW s / 16777216 % 16 ∧ kindP s ≤ 15 ∧ (padP s : Int) = lastW s / 1073741824 ∧ padP s ≤ 3 := by
  have h := takeW_bounds (s, false)
  have h1 : 0 ≤ lastW s := h.1
  have h2 : lastW s ≤ 4294967295 := h.2
  refine ⟨h1, h2, ?_, ?_, ?_, ?_⟩ <;> first | (unfold kindP; omega) | (unfold padP; omega)
theorem take_rest (s : ByteArray) (h : 4 ≤ s.size) : (takeW (s, false)).2 = (s.extract 0 (s.size - 4), false) := by
  unfold takeW; rw [if_neg (by simp; omega)]

abbrev aggP (k : Nat) (sq n ps mr : Int) (lv : Value) (self : Bool) (d : ByteArray) : Array Value := #[.int .i64 (k : Int), .int .i64 sq, .int .u32 n, .int .u32 ps, .int .u32 mr, lv, .bool self, .string d]

set_option maxHeartbeats 4000000 in
theorem parse_long (s : ByteArray) (w : World) (hF : Forms w) (h0 : s.size ≠ 0) (h1 : s.size % 4 = 0) (hm : s.size ≤ 100000) :
    Calls Tryd.prog 13 #[.string s] w fun e w' => Below w.heap.size w w' ∧ ((codeP s ≠ 0 ∧ e = .returned (told (.agg zeroC) (codeP s))) ∨ (codeP s = 0 ∧ ∃ lv, e = .returned (told ((unitP s).val .u32 lv) 0) ∧ OwnI .u32 29 w' w.heap.size lv (unitP s).list)) := by
  have he := isEmpty_no h0
  have hmz : ((s.size : Int) % 4 != 0) = false := by
    rw [bne_eq_false_iff_eq]; omega
  have hC : codeP s = if kindP s = 0 then 10 else if (gotP' s).rest.2 = true ∨ (gotP' s).rest.1.size < padP s then 5 else if checkU (unitP s) = 6 then 6 else if bytesU (unitP s) ≠ s then 3 else 0 := by
    unfold codeP; rw [if_neg (by omega)]
  have HC := Lib.hid hC
  have HM := Lib.hid hm
  have HF := Lib.hid hF
  obtain ⟨f1, f2, f3, f4, f5, f6⟩ := word_facts s
  have hr := take_rest s (by omega)
  have hx : (takeW (s, false)).1 = lastW s := rfl
  have hn : nP s = lastW s % 16777216 := rfl
  have hsf : selfP s = (lastW s / 536870912 % 2 == 1) := rfl
  obtain ⟨b, hb⟩ : ∃ b : Nat, lastW s / 536870912 % 2 = (b : Int) := ⟨(lastW s / 536870912 % 2).toNat, by omega⟩
  rw [hb] at hsf
  obtain ⟨X, hX⟩ : ∃ X, lastW s = X := ⟨_, rfl⟩
  rw [hX] at f1 f2 f3 f5 hx hn hb
  have m4 : bits .and .u32 (X / 16777216) 15 = (kindP s : Int) := by rw [mask4 _ (by omega) (by omega), f3]
  have m1 : bits .and .u32 (X / 536870912) 1 = (b : Int) := by rw [mask1 _ (by omega) (by omega), hb]
  obtain ⟨k, hk⟩ : ∃ k, kindP s = k := ⟨_, rfl⟩
  obtain ⟨sf, hsf2⟩ : ∃ sf, selfP s = sf := ⟨_, rfl⟩
  rw [hk] at m4 f4
  rw [hsf2] at hsf
  have HX := Lib.hid hx
  have HN := Lib.hid hn
  have HSF := Lib.hid hsf
  have HSF2 := Lib.hid hsf2
  have HK := Lib.hid hk
  have HR := Lib.hid hr
  have HP := Lib.hid f5
  have HP3 := Lib.hid f6
  clear hm hk h0 h1 hx hX hn hsf hsf2 hr f3 f5 f6 hb hF hC
  go_enter Tryd.func13, Tryd.ntmps13
  go_wp2_with fail
  have hr0 : RestAt ((w.alloc (.cells zeroC 32)).alloc (.cells #[.string s, .bool false] 73)) (w.heap.size + 1) s false := by
    have := heap_alloc_new (w.alloc (.cells zeroC 32)) (.cells #[.string s, .bool false] 73)
    simpa [RestAt] using this
  have hg0 : ((w.alloc (.cells zeroC 32)).alloc (.cells #[.string s, .bool false] 73)).heap[w.heap.size]? = some (.cells zeroC 32 (0, 0)) := by
    rw [((Below.refl (w.alloc (.cells zeroC 32)).heap.size _).alloc (Nat.le_refl _) _).block _ (by simp), heap_alloc_new]
  have hbw : Below w.heap.size w ((w.alloc (.cells zeroC 32)).alloc (.cells #[.string s, .bool false] 73)) := ((Below.refl _ _).alloc (Nat.le_refl _) _).alloc (by simp) _
  have hsz : ((w.alloc (.cells zeroC 32)).alloc (.cells #[.string s, .bool false] 73)).heap.size = w.heap.size + 2 := by simp
  refine (word_take (w.heap.size + 1) (s, false) _ hr0 (Nat.le_trans HM.out (by decide))).mono ?_
  rintro e w1 ⟨rfl, hr1, hg1⟩
  rw [HX.out]
  have hg1c : w1.heap[w.heap.size]? = some (.cells zeroC 32 (0, 0)) := (hg1.block _ (by rw [hsz]; omega) (by simp)).trans hg0
  have hb1 : Below w.heap.size w w1 := hbw.grown hg1 (by rw [hsz]; omega) (fun j hj => by cases hj; omega)
  have hs1 : w.heap.size + 2 ≤ w1.heap.size := by have := hg1.size; rw [hsz] at this; exact this
  have HR1 := Lib.hid hr1
  have HG1 := Lib.hid hg1c
  have HB1 := Lib.hid hb1
  have HS1 := Lib.hid hs1
  clear hr0 hg0 hbw hsz hr1 hg1 hg1c hb1 hs1
  go_wp2_with fail
  refine (low_any X _ (by omega) (by omega)).mono ?_; rintro e w' ⟨rfl, rfl⟩
  go_wp2_with fail
  have hb2 : Below w.heap.size w (w1.alloc (.cells (aggP k 0 (X % 16777216) 0 0 (.slice none 0 0) ((b : Int) == 1) ⟨#[]⟩) 32)) := HB1.out.alloc (by have := HS1.out; omega) _
  have HB2 := Lib.hid hb2
  have HP2 : Hid (PAt (w1.alloc (.cells (aggP k 0 (X % 16777216) 0 0 (.slice none 0 0) ((b : Int) == 1) ⟨#[]⟩) 32)) w1.heap.size k 0 (X % 16777216) 0 0 (.slice none 0 0) ((b : Int) == 1)) := Lib.hid (heap_alloc_new w1 _)
  have hbl : Below w1.heap.size w1 (w1.alloc (.cells (aggP k 0 (X % 16777216) 0 0 (.slice none 0 0) ((b : Int) == 1) ⟨#[]⟩) 32)) := (Below.refl _ _).alloc (Nat.le_refl _) _
  have HR2 := Lib.hid (HR1.out.below hbl)
  have HG2 : Hid ((w1.alloc (.cells (aggP k 0 (X % 16777216) 0 0 (.slice none 0 0) ((b : Int) == 1) ⟨#[]⟩) 32)).heap[w.heap.size]? = some (.cells zeroC 32 (0, 0))) := Lib.hid ((hbl.block _ (by have := HS1.out; omega)).trans HG1.out)
  have HS2 : Hid ((w1.alloc (.cells (aggP k 0 (X % 16777216) 0 0 (.slice none 0 0) ((b : Int) == 1) ⟨#[]⟩) 32)).heap.size = w1.heap.size + 1) := Lib.hid (by simp)
  clear hb2 hbl HR1 HG1 HB1
  generalize w1.alloc (.cells (aggP k 0 (X % 16777216) 0 0 (.slice none 0 0) ((b : Int) == 1) ⟨#[]⟩) 32) = W1 at *
  generalize w1.heap.size = g at *
  rw [← HSF.out] at *
  refine (known_any (k : Int) _).mono ?_; rintro e W1 ⟨rfl, rfl⟩
  by_cases hk0 : k = 0
  · rw [show knownB (k : Int) = false from decide_eq_false (by omega)]
    have hcode : codeP s = 10 := by rw [HC.out, HK.out, if_pos hk0]
    have HCO := Lib.hid hcode
    clear hcode hk0
    go_wp2_with (refine wpList_store_row rfl 32 _ _ rfl w.heap.size zeroC rfl rfl 32 _ HG2.out info_pdu rfl (by simp [Value.oneCell']) ?_)
    refine bodyPost_ret (results_row_tmp rfl _ _ w.heap.size 32 _ (0, 0) _ rfl (setRow_heap _ _ _ _ 32 (0, 0) HG2.out) Tryd.underlying32 rfl info_pdu) rfl ⟨below_setRow HB2.out (Nat.le_refl _) _, .inl ⟨by rw [HCO.out]; decide, by rw [HCO.out]; rfl⟩⟩
  · rw [show knownB (k : Int) = true from decide_eq_true (by omega)]
    have hC : codeP s = if (gotP' s).rest.2 = true ∨ (gotP' s).rest.1.size < padP s then 5 else if checkU (unitP s) = 6 then 6 else if bytesU (unitP s) ≠ s then 3 else 0 := by
      rw [HC.out, HK.out, if_neg hk0]
    have HC2 := Lib.hid hC
    have hst : (takeW (s, false)).2.1.size ≤ 100000 := Nat.le_trans (takeW_size (s, false)) HM.out
    have HST := Lib.hid hst
    have hk1 : 1 ≤ k := by omega
    have HFW : Hid (Forms W1) := Lib.hid (HF.out.below HB2.out (Nat.le_refl _))
    clear hk0 HC hC hst
    go_wp2_with fail
    refine (read_any k g (w.heap.size + 1) _ sf (takeW (s, false)).2 _ hk1 f4 HFW.out HP2.out HR2.out (by have := HS1.out; omega) HST.out).mono ?_
    rintro e W3 ⟨⟨_, rfl⟩, lv, hp3, ho3, hr3, hb3⟩
    have hgot : gotU k (takeW (s, false)).2 = gotP' s := by unfold gotP'; rw [HK.out]
    rw [hgot] at hp3 ho3 hr3
    have hu : unitP s = ⟨(k : Int), (gotP' s).sq, X % 16777216, (gotP' s).ps, (gotP' s).mr, (gotP' s).list, sf, (gotP' s).rest.1.extract 0 ((gotP' s).rest.1.size - padP s)⟩ := by
      unfold unitP; rw [HK.out, HN.out, HSF2.out]
    obtain ⟨G, hG⟩ : ∃ G, gotP' s = G := ⟨_, rfl⟩
    have hC2 := HC2.out
    rw [hG] at hp3 ho3 hr3 hu hC2
    have HU := Lib.hid hu
    have HC3 := Lib.hid hC2
    clear hgot hu hC2 HC2
    have hb30 : Below w.heap.size w W3 := HB2.out.trans (hb3.mono (by have := HS1.out; omega))
    have hg3 : W3.heap[w.heap.size]? = some (.cells zeroC 32 (0, 0)) := (hb3.block _ (by have := HS1.out; omega)).trans HG2.out
    have HB3 := Lib.hid hb30
    have HG3 := Lib.hid hg3
    have HP3' := Lib.hid hp3
    have HO3 := Lib.hid ho3
    have hrsz : G.rest.1.size ≤ 100000 := by
      rw [← hG]; exact Nat.le_trans (gotU_size _ _) HST.out
    obtain ⟨r0, r1, _⟩ := hr3.cells
    obtain ⟨pd, hpd⟩ : ∃ pd, padP s = pd := ⟨_, rfl⟩
    have hpx : X / 1073741824 = (pd : Int) := by rw [← hpd]; exact HP.out.symm
    have hpd3 : pd ≤ 3 := by rw [← hpd]; exact HP3.out
    have HPD := Lib.hid hpd
    have HHG := Lib.hid hG
    obtain ⟨gsq, gps, gmr, gl, R, wt⟩ := G
    dsimp only at *
    clear hb30 hg3 hp3 ho3 hb3 hpd hG hr3 HR2 HP2 HG2
    cases wt with
    | true =>
      have hcode : codeP s = 5 := by rw [HC3.out, if_pos (.inl rfl)]
      have HCO := Lib.hid hcode
      clear hcode HC3
      go_wp2_with (refine wpList_store_row rfl 32 _ _ rfl w.heap.size zeroC rfl rfl 32 _ HG3.out info_pdu rfl (by simp [Value.oneCell']) ?_)
      refine bodyPost_ret (results_row_tmp rfl _ _ w.heap.size 32 _ (0, 0) _ rfl (setRow_heap _ _ _ _ 32 (0, 0) HG3.out) Tryd.underlying32 rfl info_pdu) rfl ⟨below_setRow HB3.out (Nat.le_refl _) _, .inl ⟨by rw [HCO.out]; decide, by rw [HCO.out]; rfl⟩⟩
    | false =>
      by_cases hlt : R.size < pd
      · have hcode : codeP s = 5 := by rw [HC3.out, HPD.out, if_pos (.inr hlt)]
        have HCO := Lib.hid hcode
        have hneg : decide ((R.size : Int) - (pd : Int) < 0) = true := decide_eq_true (by omega)
        clear hcode HC3
        go_wp2_with (refine wpList_store_row rfl 32 _ _ rfl w.heap.size zeroC rfl rfl 32 _ HG3.out info_pdu rfl (by simp [Value.oneCell']) ?_)
        refine bodyPost_ret (results_row_tmp rfl _ _ w.heap.size 32 _ (0, 0) _ rfl (setRow_heap _ _ _ _ 32 (0, 0) HG3.out) Tryd.underlying32 rfl info_pdu) rfl ⟨below_setRow HB3.out (Nat.le_refl _) _, .inl ⟨by rw [HCO.out]; decide, by rw [HCO.out]; rfl⟩⟩
      · obtain ⟨d, hd⟩ : ∃ d, R.size = d + pd := ⟨R.size - pd, by omega⟩
        have hdI : (R.size : Int) - (pd : Int) = (d : Int) := by omega
        have hdle : (d : Int) ≤ (R.size : Int) := by omega
        have hC4 : codeP s = if checkU (unitP s) = 6 then 6 else if bytesU (unitP s) ≠ s then 3 else 0 := by
          rw [HC3.out, HPD.out, if_neg]
          rintro (h | h)
          · cases h
          · exact hlt h
        have HC4 := Lib.hid hC4
        have hu2 : unitP s = ⟨(k : Int), gsq, X % 16777216, gps, gmr, gl, sf, R.extract 0 d⟩ := by rw [HU.out, HPD.out, hd, Nat.add_sub_cancel]
        have HU2 := Lib.hid hu2
        have HD := Lib.hid hd
        clear hlt hC4 HC3 hu2 HU hd
        go_wp2_with fail
        refine (clone_any (R.extract 0 d) _ (by rw [ByteArray.size_extract]; omega)).mono ?_; rintro e W4 ⟨rfl, hb4⟩
        obtain ⟨D, hD⟩ : ∃ D, R.extract 0 d = D := ⟨_, rfl⟩
        have hu3 := HU2.out
        rw [hD] at hu3 ⊢
        have HU3 := Lib.hid hu3
        have hp4 := HP3'.out.below hb4
        have ho4 := HO3.out.below hb4
        have hg4 := (hb4.block _ (by have := (Array.getElem?_eq_some_iff.1 HG3.out).1; exact this)).trans HG3.out
        have HB4 := Lib.hid (HB3.out.trans (hb4.mono HB3.out.size))
        have p7 : W4.cell? ⟨g, 7, none⟩ = some (.string ⟨#[]⟩) := Go.Joins.cell_of_block hp4 7
        have z7 := hp4.cells.2.2.2.2.2.2 7
        have HP5 : Hid ((W4.setCell ⟨g, 7, none⟩ (.string D)).heap[g]? = some (.cells (aggP k gsq (X % 16777216) gps gmr lv sf D) 32 (0, 0))) := Lib.hid (heap_setCell_same _ _ _ _ _ _ hp4)
        have HG5 : Hid ((W4.setCell ⟨g, 7, none⟩ (.string D)).heap[w.heap.size]? = some (.cells zeroC 32 (0, 0))) := Lib.hid ((heap_setCell_other _ _ _ _ (show w.heap.size ≠ g by have := HS1.out; omega)).trans hg4)
        have HB5 : Hid (Below w.heap.size w (W4.setCell ⟨g, 7, none⟩ (.string D))) := Lib.hid (HB4.out.setCell (show w.heap.size ≤ g by have := HS1.out; omega) _)
        have hgl := gotU_list (kindP s) (takeW (s, false)).2 HST.out
        have hgg : gotU (kindP s) (takeW (s, false)).2 = _ := HHG.out
        rw [hgg] at hgl
        have hown5 : OwnI .u32 29 (W4.setCell ⟨g, 7, none⟩ (.string D)) (W1.heap.size + 1) lv gl := own_past ho4 (grown_set _ _ _ _) (by have := HS2.out; omega)
        obtain ⟨la, lcap, hlv, hnums⟩ := nums_own hown5 hgl.1 hgl.2
        have HO5 := Lib.hid hown5
        have HN5 := Lib.hid hnums
        have HF5 : Hid (Forms (W4.setCell ⟨g, 7, none⟩ (.string D))) := Lib.hid (HF.out.below HB5.out (Nat.le_refl _))
        clear hp4 ho4 hg4 hgl hgg hown5 hnums hb4 hD hu3 HU2 HB4
        subst hlv
        go_wp2_with (refine wpList_load_row rfl 32 _ rfl g rfl 32 (aggP k gsq (X % 16777216) gps gmr (.slice la gl.length lcap) sf D) (0, 0) _ HP5.out Tryd.underlying32 rfl info_pdu ?_)
        generalize W4.setCell ⟨g, 7, none⟩ (.string D) = W5 at *
        clear p7 z7 r0 r1 HP3' HO3 HB3 HG3
        have hwl : w.heap.size ≤ W5.heap.size := HB5.out.size
        have hgl5 : w.heap.size < W5.heap.size := (Array.getElem?_eq_some_iff.1 HG5.out).1
        have hpl5 : g < W5.heap.size := (Array.getElem?_eq_some_iff.1 HP5.out).1
        refine (check_any ⟨(k : Int), gsq, X % 16777216, gps, gmr, gl, sf, D⟩ (.slice la gl.length lcap) _ HF5.out HN5.out).mono ?_; rintro e W6 ⟨rfl, hb6⟩
        have HG6 := Lib.hid ((hb6.block _ hgl5).trans HG5.out)
        have HP6 := Lib.hid ((hb6.block _ hpl5).trans HP5.out)
        have HB6 := Lib.hid (HB5.out.trans (hb6.mono hwl))
        have HO6 := Lib.hid (HO5.out.below hb6)
        have HN6 := Lib.hid (HN5.out.below hb6 (Nat.le_refl _))
        have HF6 := Lib.hid (HF5.out.below hb6 (Nat.le_refl _))
        have hs6 := hb6.size
        obtain ⟨c, hc⟩ : ∃ c, checkU ⟨(k : Int), gsq, X % 16777216, gps, gmr, gl, sf, D⟩ = c := ⟨_, rfl⟩
        have hC5 := HC4.out
        rw [HU3.out, hc] at hC5
        rw [hc]
        have HCC := Lib.hid hc
        have HC5 := Lib.hid hC5
        clear hb6 HG5 HP5 HB5 HO5 HN5 HF5 hc hC5 HC4
        by_cases h6 : c = 6
        · have hcode : codeP s = 6 := by rw [HC5.out, if_pos h6]
          have HCO := Lib.hid hcode
          subst h6
          clear hcode HC5
          go_wp2_with (refine wpList_store_row rfl 32 _ _ rfl w.heap.size zeroC rfl rfl 32 _ HG6.out info_pdu rfl (by simp [Value.oneCell']) ?_)
          refine bodyPost_ret (results_row_tmp rfl _ _ w.heap.size 32 _ (0, 0) _ rfl (setRow_heap _ _ _ _ 32 (0, 0) HG6.out) Tryd.underlying32 rfl info_pdu) rfl ⟨below_setRow HB6.out (Nat.le_refl _) _, .inl ⟨by rw [HCO.out]; decide, by rw [HCO.out]; rfl⟩⟩
        · have hd6 : (c == 6) = false := by simpa using h6
          have hcode : codeP s = if bytesU (unitP s) ≠ s then 3 else 0 := by rw [HC5.out, if_neg h6, HU3.out]
          have HCO := Lib.hid hcode
          clear hcode HC5 h6
          go_wp2_with (refine wpList_load_row rfl 32 _ rfl g rfl 32 (aggP k gsq (X % 16777216) gps gmr (.slice la gl.length lcap) sf D) (0, 0) _ HP6.out Tryd.underlying32 rfl info_pdu ?_)
          refine (bytes_any k la lcap gsq (X % 16777216) gps gmr gl sf D _ HF6.out HN6.out (by omega)).mono ?_; rintro e W7 ⟨rfl, hb7⟩
          have HG7 := Lib.hid ((hb7.block _ (Nat.lt_of_lt_of_le hgl5 hs6)).trans HG6.out)
          have HP7 := Lib.hid ((hb7.block _ (Nat.lt_of_lt_of_le hpl5 hs6)).trans HP6.out)
          have HB7 := Lib.hid (HB6.out.trans (hb7.mono (Nat.le_trans hwl hs6)))
          have HO7 := Lib.hid (HO6.out.below hb7)
          obtain ⟨Y, hY⟩ : ∃ Y, bytesU ⟨(k : Int), gsq, X % 16777216, gps, gmr, gl, sf, D⟩ = Y := ⟨_, rfl⟩
          have hco := HCO.out
          rw [HU3.out, hY] at hco
          rw [hY]
          have HCO2 := Lib.hid hco
          clear hb7 HG6 HP6 HB6 HO6 HN6 HF6 hY hco HCO
          by_cases hys : Y = s
          · subst hys
            have hcode : codeP Y = 0 := by rw [HCO2.out, if_neg (fun h => h rfl)]
            have HCD := Lib.hid hcode
            have hyy : (Y.toList == Y.toList) = true := beq_self_eq_true _
            have hyn : (Y.toList != Y.toList) = false := by rw [bne, hyy]; rfl
            clear hcode HCO2
            go_wp2_with (first | (refine wpList_load_row rfl 32 _ rfl g rfl 32 (aggP k gsq (X % 16777216) gps gmr (.slice la gl.length lcap) sf D) (0, 0) _ HP7.out Tryd.underlying32 rfl info_pdu ?_) | (refine wpList_store_row rfl 32 _ _ rfl w.heap.size (aggP k gsq (X % 16777216) gps gmr (.slice la gl.length lcap) sf D) rfl rfl 32 _ HG7.out info_pdu rfl (by simp [Value.oneCell']) ?_))
            refine bodyPost_ret (results_row_tmp rfl _ _ w.heap.size 32 _ (0, 0) _ rfl (setRow_heap _ _ _ _ 32 (0, 0) HG7.out) Tryd.underlying32 rfl info_pdu) rfl ⟨below_setRow HB7.out (Nat.le_refl _) _, .inr ⟨HCD.out, .slice la gl.length lcap, by rw [HU3.out]; rfl, ?_⟩⟩
            rw [HU3.out]
            exact (own_past HO7.out (grown_row2 _ _ _) (by have := HS1.out; have := HS2.out; omega)).lower (by have := HS1.out; have := HS2.out; omega)
          · have hcode : codeP s = 3 := by rw [HCO2.out, if_pos hys]
            have HCD := Lib.hid hcode
            have hys2 : ¬ (Y.toList = s.toList) := fun h => hys (by
              rw [ByteArray.toList_eq, ByteArray.toList_eq] at h
              exact ByteArray.ext (Array.ext' h))
            have hyy : (Y.toList == s.toList) = false := by rw [beq_eq_false_iff_ne]; exact hys2
            have hyn : (Y.toList != s.toList) = true := by rw [bne, hyy]; rfl
            clear hcode HCO2 hys2
            go_wp2_with (refine wpList_store_row rfl 32 _ _ rfl w.heap.size zeroC rfl rfl 32 _ HG7.out info_pdu rfl (by simp [Value.oneCell']) ?_)
            refine bodyPost_ret (results_row_tmp rfl _ _ w.heap.size 32 _ (0, 0) _ rfl (setRow_heap _ _ _ _ 32 (0, 0) HG7.out) Tryd.underlying32 rfl info_pdu) rfl ⟨below_setRow HB7.out (Nat.le_refl _) _, .inl ⟨by rw [HCD.out]; decide, by rw [HCD.out]; rfl⟩⟩

theorem parse_any (s : ByteArray) (w : World) (hF : Forms w) (hm : s.size ≤ 100000) :
    Calls Tryd.prog 13 #[.string s] w fun e w' => Below w.heap.size w w' ∧ ((codeP s ≠ 0 ∧ e = .returned (told (.agg zeroC) (codeP s))) ∨ (codeP s = 0 ∧ ∃ lv, e = .returned (told ((unitP s).val .u32 lv) 0) ∧ OwnI .u32 29 w' w.heap.size lv (unitP s).list)) := by
  by_cases h : s.size = 0 ∨ s.size % 4 ≠ 0
  · have hc : codeP s = 5 := if_pos h
    exact (parse_short s w h).mono fun e w' ⟨h1, h2⟩ => ⟨h2, .inl ⟨by rw [hc]; decide, by rw [hc]; exact h1⟩⟩
  · exact parse_long s w hF (fun e => h (.inl e)) (by omega) hm
end Go.Proofs.YtaappdaolenkiaaDoor.Pdu
