/-
  Units: a unit's bytes are read back.
-/
import Derived.Test.YtaappdaolenkiaaDoorPduRef4
namespace Go.Proofs.YtaappdaolenkiaaDoor.Pdu
open Go.ChangeShapes Go.WideShapes Go.RowKit Own

theorem str_list (L : List Int) : (strOfNums L).data.toList = L.map fun n => UInt8.ofNat n.toNat := by simp [strOfNums]
theorem word4_be4 (x : Int) (h0 : 0 ≤ x) (h1 : x < 4294967296) : ((word4 ((be4 x).map fun n => UInt8.ofNat n.toNat) : Nat) : Int) = x := by
  have e : ∀ y : Int, ((UInt8.ofNat (y % 256).toNat).toNat : Int) = y % 256 := fun y => by
    rw [UInt8.toNat_ofNat']; omega
  have f : ∀ a b c d : UInt8, ((word4 [a, b, c, d] : Nat) : Int) = (a.toNat : Int) * 16777216 + (b.toNat : Int) * 65536 + (c.toNat : Int) * 256 + (d.toNat : Int) := fun a b c d => by simp [word4]; omega
  unfold be4
  simp only [List.map_cons, List.map_nil]
  rw [f, e, e, e, e]
  omega
theorem str_ext {A B : ByteArray} (h : A.data.toList = B.data.toList) : A = B := ByteArray.ext (Array.ext' h)
theorem extract_list (s : ByteArray) (n : Nat) : (s.extract 0 n).data.toList = s.data.toList.take n := by
  rw [ByteArray.data_extract, Array.toList_extract, List.extract_eq_take_drop]; simp
theorem str_take (A B : List Int) : (strOfNums (A ++ B)).extract 0 A.length = strOfNums A := by
  apply str_ext
  rw [extract_list, str_list, str_list, List.map_append, List.take_left' (by simp)]
theorem takeW_app (A : List Int) (x : Int) (b : Bool) (h0 : 0 ≤ x) (h1 : x < 4294967296) : takeW (strOfNums (A ++ be4 x), b) = (x, (strOfNums A, b)) := by
  have hs : (strOfNums (A ++ be4 x)).size = A.length + 4 := by rw [str_size, List.length_append]; rfl
  unfold takeW
  dsimp only
  rw [if_neg (by omega), hs, Nat.add_sub_cancel, str_take, str_list, List.map_append, List.drop_left' (by simp), word4_be4 x h0 h1]
theorem takeN_app : ∀ (l : List Int) (A : List Int) (b : Bool), (∀ z ∈ l, 0 ≤ z ∧ z < 4294967296) → takeN l.length (strOfNums (A ++ l.flatMap be4), b) = (l.reverse, (strOfNums A, b))
  | [], A, b, _ => by simp [takeN]
  | x :: l, A, b, h => by
    have ih := takeN_app l (A ++ be4 x) b (fun z hz => h z (by simp [hz]))
    have hx := h x (by simp)
    rw [List.flatMap_cons, ← List.append_assoc, List.length_cons, takeN, ih]
    dsimp only
    rw [takeW_app A x b hx.1 hx.2]
    simp

/-- what a unit that may be has -/
structure Good (u : U) (k : Nat) : Prop where
  kind : u.kind = (k : Int)
  lo : 1 ≤ k
  hi : k ≤ 15
  sq : 0 ≤ u.sq ∧ u.sq ≤ 255
  n : 0 ≤ u.n ∧ u.n ≤ 16777215
  ps : 0 ≤ u.ps ∧ u.ps ≤ 16777215
  mr : 0 ≤ u.mr ∧ u.mr ≤ 16777215
  list : ∀ z ∈ u.list, 0 ≤ z ∧ z ≤ 16777215
  sqF : hasSQ (k : Int) = true ∨ u.sq = 0
  psF : inB (k : Int) [10, 11] = true ∨ u.ps = 0
  mrF : inB (k : Int) [11, 12] = true ∨ u.mr = 0
  l11 : k = 11 → u.data.size = 0
  l12 : k = 12 → u.list.length = 2
  l0 : k ≠ 11 → k ≠ 12 → u.list.length = 0
  len : u.list.length ≤ 128
  dat : u.data.size ≤ 200
theorem good_of (u : U) (hc : checkU u = 0) (hn : 0 ≤ u.n) (hps : 0 ≤ u.ps) (hmr : 0 ≤ u.mr) (hl : ∀ z ∈ u.list, 0 ≤ z) : ∃ k, Good u k := by
  obtain ⟨k, hk, h1, h2, s1, s2, n1, p1, m1, l1, d1, b1⟩ := check_ok u hc
  have hb4 : ¬ bad4 u := fun hb => by
    have : checkU u = 6 := by
      unfold checkU
      rw [if_neg (by rw [hk, show knownB (k : Int) = true from decide_eq_true ⟨by omega, by omega⟩]; simp), if_pos]
      have h8 := (form_facts k h1 h2).2.2.2.2.2.2.2
      unfold bad4 at hb
      rw [hk, Int.toNat_natCast, h8]
      rw [hk] at hb
      exact hb
    rw [this] at hc
    exact absurd hc (by decide)
  have hce := check_eq u k hk h1 h2 hn hps hmr hl hb4
  rw [hc] at hce
  have five : ∀ b1 b2 b3 b4 b5 : Bool, (0 : Int) = (if b1 = true then (1 : Int) else if b2 = true then 1 else if b3 = true then 1 else if b4 = true then 1 else if b5 = true then 1 else 0) → b1 = false ∧ b2 = false ∧ b3 = false ∧ b4 = false ∧ b5 = false := by decide
  obtain ⟨c6, c8, c10, c12, _⟩ := five _ _ _ _ _ hce
  unfold bad6 at c6
  unfold bad8 at c8
  unfold bad10 at c10
  unfold bad12 at c12
  rw [hk] at c6 c8 c10 c12
  simp only [Bool.or_eq_false_iff, Bool.and_eq_false_iff, Bool.not_eq_false', beq_eq_false_iff_ne, bne_eq_false_iff_eq, decide_eq_false_iff_not, ne_eq, beq_iff_eq] at c6 c8 c10 c12
  have hmo : k = 11 → mostI (k : Int) = 0 := by rintro rfl; rfl
  unfold anyBig at b1
  rw [List.any_eq_false] at b1
  refine ⟨k, hk, h1, h2, ⟨s1, s2⟩, ⟨hn, n1⟩, ⟨hps, p1⟩, ⟨hmr, m1⟩, fun z hz => ⟨hl z hz, by have := b1 z hz; simp at this; omega⟩, c8.1.1, c10.1, c10.2, ?_, ?_, ?_, l1, d1⟩
  · intro h11
    have := c6.1.1.1.1.1
    rw [hmo h11] at this
    simpa using this
  · intro h12; have := c12.1.2; omega
  · intro h11 h12; have := c12.2; omega
theorem partM_eq (u : U) (k : Nat) (hk : u.kind = (k : Int)) : partM u = part0 u (padU u) ++ ((if hasSQ (k : Int) = true then be4 u.sq else []) ++ (u.list.flatMap be4 ++ ((if inB (k : Int) [10, 11] = true then be4 u.ps else []) ++ (if inB (k : Int) [11, 12] = true then be4 u.mr else [])))) := by
  unfold partM partP partL partQ
  rw [hk, List.take_length]
  have p1 : ((k : Int) = 10 ∨ (k : Int) = 11) ↔ inB (k : Int) [10, 11] = true := by simp [inB]; omega
  have p2 : ((k : Int) = 11 ∨ (k : Int) = 12) ↔ inB (k : Int) [11, 12] = true := by simp [inB]; omega
  simp only [p1, p2]
  cases hasSQ (k : Int) <;> cases inB (k : Int) [10, 11] <;> cases inB (k : Int) [11, 12] <;> simp [List.append_assoc]
theorem got_S (u : U) (k : Nat) (h : Good u k) (h1 : hasSQ (k : Int) = true) (h2 : inB (k : Int) [10, 11] = false) (h3 : inB (k : Int) [11, 12] = false) (h4 : u.list = []) :
    gotS (strOfNums (partM u), false) = ⟨u.sq, u.ps, u.mr, u.list, (strOfNums (part0 u (padU u)), false)⟩ := by
  have e : partM u = part0 u (padU u) ++ be4 u.sq := by rw [partM_eq u k h.kind, h1, h2, h3, h4]; simp
  have e1 : u.ps = 0 := by rcases h.psF with h5 | h5
                           · rw [h2] at h5; cases h5
                           · exact h5
  have e2 : u.mr = 0 := by rcases h.mrF with h5 | h5
                           · rw [h3] at h5; cases h5
                           · exact h5
  unfold gotS
  rw [e, takeW_app _ _ _ h.sq.1 (by have := h.sq.2; omega), e1, e2, h4]
theorem got_back (u : U) (k : Nat) (h : Good u k) : gotU k (strOfNums (partM u), false) = ⟨u.sq, u.ps, u.mr, u.list, (strOfNums (part0 u (padU u)), false)⟩ := by
  have hl : k ≠ 11 → k ≠ 12 → u.list = [] := fun a b => List.eq_nil_of_length_eq_zero (h.l0 a b)
  have hps0 : inB (k : Int) [10, 11] = false → u.ps = 0 := fun a => by rcases h.psF with h5 | h5
                                                                       · rw [a] at h5; cases h5
                                                                       · exact h5
  have hmr0 : inB (k : Int) [11, 12] = false → u.mr = 0 := fun a => by rcases h.mrF with h5 | h5
                                                                       · rw [a] at h5; cases h5
                                                                       · exact h5
  have hsq0 : hasSQ (k : Int) = false → u.sq = 0 := fun a => by rcases h.sqF with h5 | h5
                                                                · rw [a] at h5; cases h5
                                                                · exact h5
  have hpe := partM_eq u k h.kind
  have hbl : ∀ z ∈ u.list, 0 ≤ z ∧ z < 4294967296 := fun z hz => ⟨(h.list z hz).1, by have := (h.list z hz).2; omega⟩
  have bp := h.ps
  have bm := h.mr
  have h12 := h.l12
  have h11 := h.l11
  match k, h.lo, h.hi with
  | 1, _, _ => exact got_S u 1 h rfl rfl rfl (hl (by decide) (by decide))
  | 2, _, _ => exact got_S u 2 h rfl rfl rfl (hl (by decide) (by decide))
  | 3, _, _ => exact got_S u 3 h rfl rfl rfl (hl (by decide) (by decide))
  | 4, _, _ => exact got_S u 4 h rfl rfl rfl (hl (by decide) (by decide))
  | 5, _, _ => exact got_S u 5 h rfl rfl rfl (hl (by decide) (by decide))
  | 6, _, _ => exact got_S u 6 h rfl rfl rfl (hl (by decide) (by decide))
  | 7, _, _ => exact got_S u 7 h rfl rfl rfl (hl (by decide) (by decide))
  | 9, _, _ => exact got_S u 9 h rfl rfl rfl (hl (by decide) (by decide))
  | 15, _, _ => exact got_S u 15 h rfl rfl rfl (hl (by decide) (by decide))
  | 8, _, _ | 13, _, _ | 14, _, _ =>
    have e4 := hl (by decide) (by decide)
    have e : partM u = part0 u (padU u) := by rw [hpe, e4]; exact List.append_nil _
    show gotO _ = _
    unfold gotO
    rw [e, hsq0 rfl, hps0 rfl, hmr0 rfl, e4]
  | 10, _, _ =>
    have e4 := hl (by decide) (by decide)
    have e : partM u = part0 u (padU u) ++ be4 u.ps := by rw [hpe, e4]; rfl
    show gotP _ = _
    unfold gotP
    rw [e, takeW_app _ _ _ bp.1 (by omega), hsq0 rfl, hmr0 rfl, e4]
  | 12, _, _ =>
    have e : partM u = (part0 u (padU u) ++ u.list.flatMap be4) ++ be4 u.mr := by rw [hpe, List.append_assoc]; rfl
    show gotM _ = _
    unfold gotM
    rw [e, takeW_app _ _ _ bm.1 (by omega)]
    dsimp only
    rw [show (2 : Nat) = u.list.length from (h12 rfl).symm, takeN_app _ _ _ hbl, hsq0 rfl, hps0 rfl, List.reverse_reverse]
  | 11, _, _ =>
    have e : partM u = ((part0 u (padU u) ++ u.list.flatMap be4) ++ be4 u.ps) ++ be4 u.mr := by rw [hpe, List.append_assoc, List.append_assoc]; rfl
    have e0 : part0 u (padU u) = [] := by
      apply List.eq_nil_of_length_eq_zero
      have hd := h11 rfl
      unfold part0 padU
      rw [List.length_append, List.length_replicate, hd]
      rw [show (dataI u.data).length = u.data.size from by simp [dataI], hd]
    show gotB _ = _
    unfold gotB
    rw [e, takeW_app _ _ _ bm.1 (by omega)]
    dsimp only
    rw [takeW_app _ _ _ bp.1 (by omega)]
    dsimp only
    have hsz : (strOfNums (part0 u (padU u) ++ u.list.flatMap be4)).size / 4 = u.list.length := by
      rw [str_size, List.length_append, e0, be4_length]; simp
    rw [hsz, takeN_app _ _ _ hbl, hsq0 rfl, List.reverse_reverse]
  | k + 16, _, hh => exact absurd hh (by omega)

theorem back (u : U) (k : Nat) (h : Good u k) (hc : checkU u = 0) : codeP (bytesU u) = 0 ∧ unitP (bytesU u) = u := by
  have hb : bytesU u = strOfNums (partM u ++ be4 (lastI (padU u) u)) := by unfold bytesU; rw [if_pos hc, bytes_parts u k h.kind h.lo h.hi]
  obtain ⟨X, hX⟩ : ∃ X, lastI (padU u) u = X := ⟨_, rfl⟩
  have hXv : X = (padU u : Int) * 1073741824 + (if u.self then 536870912 else 0) + (k : Int) * 16777216 + u.n := by rw [← hX]; unfold lastI; rw [h.kind]
  have hpad : padU u ≤ 3 := by unfold padU; omega
  have hn := h.n
  have hlo := h.lo
  have hhi := h.hi
  have hX0 : 0 ≤ X := by rw [hXv]; split <;> omega
  have hX1 : X < 4294967296 := by rw [hXv]; split <;> omega
  rw [hX] at hb
  have ht := takeW_app (partM u) X false hX0 hX1
  rw [← hb] at ht
  have hlw : lastW (bytesU u) = X := by unfold lastW; rw [ht]
  have hkp : kindP (bytesU u) = k := by unfold kindP; rw [hlw, hXv]; split <;> omega
  have hnp : nP (bytesU u) = u.n := by unfold nP; rw [hlw, hXv]; split <;> omega
  have hpp : padP (bytesU u) = padU u := by unfold padP; rw [hlw, hXv]; split <;> omega
  have hsp : selfP (bytesU u) = u.self := by
    unfold selfP; rw [hlw, hXv]
    cases u.self
    · simp; omega
    · simp; omega
  have hg : gotP' (bytesU u) = ⟨u.sq, u.ps, u.mr, u.list, (strOfNums (part0 u (padU u)), false)⟩ := by
    unfold gotP'; rw [hkp, ht]; exact got_back u k h
  have hl0 : (part0 u (padU u)).length = u.data.size + padU u := by simp [part0, dataI]
  have hdat : (strOfNums (part0 u (padU u))).extract 0 ((strOfNums (part0 u (padU u))).size - padU u) = u.data := by
    rw [str_size, hl0, Nat.add_sub_cancel]
    have h1 := str_take (dataI u.data) (List.replicate (padU u) 0)
    have h2 : (dataI u.data).length = u.data.size := by simp [dataI]
    rw [h2, str_data] at h1
    exact h1
  have hu : unitP (bytesU u) = u := by
    unfold unitP
    rw [hkp, hg, hnp, hsp, hpp]
    dsimp only
    rw [hdat, ← h.kind]
  refine ⟨?_, hu⟩
  have hlen : (bytesU u).size = (partM u).length + 4 := by rw [hb, str_size, List.length_append]; rfl
  have hm4 : (partM u).length % 4 = 0 := by
    rw [partM_eq u k h.kind]
    simp only [List.length_append, be4_length, hl0]
    have : (u.data.size + padU u) % 4 = 0 := by unfold padU; omega
    split <;> split <;> split <;> simp [be4] <;> omega
  unfold codeP
  rw [if_neg (by omega), hkp, if_neg (by omega), hg]
  dsimp only
  rw [if_neg (by rw [str_size, hl0, hpp]; simp), hu, hc, if_neg (by decide), if_neg (by simp)]
end Go.Proofs.YtaappdaolenkiaaDoor.Pdu
