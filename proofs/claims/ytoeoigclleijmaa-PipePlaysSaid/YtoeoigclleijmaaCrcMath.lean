/-
  Sums of bytes: the register that is moved on bit by bit, byte by byte, and by a table; that what is turned within 32 bits is told. Plain mathematics: no program stands here.
-/
namespace Go.Proofs.Ytoeoigclleijmaa.CrcMath

theorem getD_lt {α : Type} (l : List α) (d : α) (k : Nat) (h : k < l.length) : l.getD k d = l[k] := by simp [List.getD, h]
theorem getD_ge {α : Type} (l : List α) (d : α) (k : Nat) (h : l.length ≤ k) : l.getD k d = d := by simp [List.getD, h]

abbrev poly : BitVec 32 := 0x04c11db7#32
def s1 (r : BitVec 32) : BitVec 32 := if r.msb then (r <<< 1) ^^^ poly else r <<< 1
def it : Nat → BitVec 32 → BitVec 32
  | 0, r => r
  | n + 1, r => s1 (it n r)

theorem s1_xor (a b : BitVec 32) : s1 (a ^^^ b) = s1 a ^^^ s1 b := by
  unfold s1
  rw [BitVec.msb_xor, BitVec.shiftLeft_xor_distrib]
  cases a.msb <;> cases b.msb <;> simp
  · rw [BitVec.xor_assoc]
  · rw [BitVec.xor_assoc, BitVec.xor_comm (b <<< 1), BitVec.xor_assoc]
  · rw [BitVec.xor_assoc, ← BitVec.xor_assoc poly, BitVec.xor_comm poly, BitVec.xor_assoc (b <<< 1), BitVec.xor_self]; simp

theorem it_xor (n : Nat) (a b : BitVec 32) : it n (a ^^^ b) = it n a ^^^ it n b := by
  induction n with
  | zero => rfl
  | succ n ih => simp only [it, ih, s1_xor]

theorem s1_zero : s1 0#32 = 0#32 := by decide
theorem it_zero (n : Nat) : it n 0#32 = 0#32 := by
  induction n with
  | zero => rfl
  | succ n ih => simp only [it, ih, s1_zero]

theorem it_small (k : Nat) (hk : k ≤ 32) (x : BitVec 32) (hx : x.toNat < 2 ^ (32 - k)) : it k x = x <<< k := by
  induction k with
  | zero => simp [it]
  | succ k ih =>
    have hlt : x.toNat < 2 ^ (32 - k) := Nat.lt_of_lt_of_le hx (Nat.pow_le_pow_right (by omega) (by omega))
    rw [it, ih (by omega) hlt, s1]
    have hm : (x <<< k).msb = false := by
      rw [BitVec.msb_eq_getLsbD_last, BitVec.getLsbD_shiftLeft]
      have : x.getLsbD (32 - 1 - k) = false := by
        rw [BitVec.getLsbD]
        exact Nat.testBit_lt_two_pow (by simpa [show 32 - (k + 1) = 32 - 1 - k from by omega] using hx)
      rw [this]; simp
    rw [hm]
    simp [BitVec.shiftLeft_add]

/-- a byte on the register's highest bits -/
def hi (b : UInt8) : BitVec 32 := BitVec.ofNat 32 b.toNat <<< 24
def on (r : BitVec 32) (b : UInt8) : BitVec 32 := it 8 (r ^^^ hi b)
def tab (j : Nat) : BitVec 32 := it 8 (BitVec.ofNat 32 j <<< 24)
def run (r : BitVec 32) (l : List UInt8) : BitVec 32 := l.foldl on r
def ones : BitVec 32 := 0xffffffff#32
def sum (l : List UInt8) : BitVec 32 := run ones l ^^^ ones

theorem low24 : ∀ i, i < 32 → (0xffffff#32).getLsbD i = decide (i < 24) := by decide

theorem parts (r : BitVec 32) : r = ((r >>> 24) <<< 24) ^^^ (r &&& 0xffffff#32) := by
  apply BitVec.eq_of_getLsbD_eq
  intro i hi
  simp only [BitVec.getLsbD_xor, BitVec.getLsbD_shiftLeft, BitVec.getLsbD_ushiftRight, BitVec.getLsbD_and, low24 i hi]
  by_cases h : i < 24
  · simp [h]
  · simp [h, hi, show 24 + (i - 24) = i from by omega]

theorem low8 (r : BitVec 32) : it 8 (r &&& 0xffffff#32) = r <<< 8 := by
  rw [it_small 8 (by omega)]
  · apply BitVec.eq_of_getLsbD_eq
    intro i hi
    simp only [BitVec.getLsbD_shiftLeft, BitVec.getLsbD_and]
    by_cases h : i < 8
    · simp [h]
    · rw [low24 _ (by omega)]
      simp [h, hi]; omega
  · rw [BitVec.toNat_and]
    exact Nat.lt_of_le_of_lt Nat.and_le_right (by decide)

theorem on_tab (r : BitVec 32) (b : UInt8) : on r b = (r <<< 8) ^^^ tab ((r >>> 24).toNat ^^^ b.toNat) := by
  have e1 : r ^^^ hi b = (BitVec.ofNat 32 ((r >>> 24).toNat ^^^ b.toNat) <<< 24) ^^^ (r &&& 0xffffff#32) := by
    have : BitVec.ofNat 32 ((r >>> 24).toNat ^^^ b.toNat) = (r >>> 24) ^^^ BitVec.ofNat 32 b.toNat := by
      rw [BitVec.ofNat_xor, BitVec.ofNat_toNat]; simp
    rw [this, BitVec.shiftLeft_xor_distrib]
    conv => lhs; rw [parts r]
    unfold hi
    rw [BitVec.xor_assoc, BitVec.xor_assoc, BitVec.xor_comm (r &&& _)]
  unfold on tab
  rw [e1, it_xor, low8, BitVec.xor_comm]

/-! ### bit by bit -/
def top1 (c : Bool) : BitVec 32 := if c then 0x80000000#32 else 0#32
def step (r : BitVec 32) (c : Bool) : BitVec 32 := s1 (r ^^^ top1 c)
def steps (r : BitVec 32) (l : List Bool) : BitVec 32 := l.foldl step r
def bits8 (b : UInt8) : List Bool := [b.toNat.testBit 7, b.toNat.testBit 6, b.toNat.testBit 5, b.toNat.testBit 4, b.toNat.testBit 3, b.toNat.testBit 2, b.toNat.testBit 1, b.toNat.testBit 0]
def bitsL (l : List UInt8) : List Bool := l.flatMap bits8
def zx (a b : List Bool) : List Bool := List.zipWith xor a b

theorem top1_xor (a b : Bool) : top1 (a ^^ b) = top1 a ^^^ top1 b := by cases a <;> cases b <;> decide

theorem xor4 (a b c d : BitVec 32) : (a ^^^ b) ^^^ (c ^^^ d) = (a ^^^ c) ^^^ (b ^^^ d) := by
  rw [BitVec.xor_assoc, BitVec.xor_assoc, ← BitVec.xor_assoc b, BitVec.xor_comm b c, BitVec.xor_assoc c]

theorem steps_xor (a b : List Bool) : ∀ (r q : BitVec 32), a.length = b.length → steps (r ^^^ q) (zx a b) = steps r a ^^^ steps q b := by
  induction a generalizing b with
  | nil => intro r q h; cases b with
    | nil => rfl
    | cons _ _ => simp at h
  | cons c a ih => intro r q h; cases b with
    | nil => simp at h
    | cons d b =>
      simp only [steps, zx, List.zipWith_cons_cons, List.foldl_cons]
      have e : step (r ^^^ q) (c ^^ d) = step r c ^^^ step q d := by
        unfold step
        rw [top1_xor, xor4, s1_xor]
      have e' : step (r ^^^ q) (xor c d) = step r c ^^^ step q d := e
      rw [e']
      exact ih b _ _ (by simpa using h)

theorem steps_append (r : BitVec 32) (a b : List Bool) : steps r (a ++ b) = steps (steps r a) b := by simp [steps]

theorem steps8_zero : ∀ n, n < 256 → steps 0#32 (bits8 (UInt8.ofNat n)) = it 8 (BitVec.ofNat 32 n <<< 24) := by decide +kernel

theorem steps_it (l : List Bool) : ∀ r, steps r l = it l.length r ^^^ steps 0#32 l := by
  have : ∀ (l : List Bool) (r : BitVec 32), steps r (l.map fun _ => false) = it l.length r := by
    intro l
    induction l with
    | nil => intro r; rfl
    | cons c l ih =>
      intro r
      have hs : step r false = s1 r := by simp [step, top1]
      show steps (step r false) (l.map fun _ => false) = it (l.length + 1) r
      rw [hs, ih]
      clear ih hs
      generalize l.length = n
      induction n with
      | zero => rfl
      | succ n ih => rw [it, ih]; rfl
  intro r
  have e := steps_xor (l.map fun _ => false) l r 0#32 (by simp)
  have ez : zx (l.map fun _ => false) l = l := by
    unfold zx
    clear e
    induction l with
    | nil => rfl
    | cons c l ih => simp [ih]
  rw [ez, this] at e
  simpa using e

theorem on_steps (r : BitVec 32) (b : UInt8) : on r b = steps r (bits8 b) := by
  have h := steps8_zero b.toNat b.toNat_lt
  rw [UInt8.ofNat_toNat] at h
  rw [steps_it, h, on, it_xor]
  rfl

theorem run_steps (l : List UInt8) : ∀ r, run r l = steps r (bitsL l) := by
  induction l with
  | nil => intro r; rfl
  | cons b l ih =>
    intro r
    show run (on r b) l = steps r (bits8 b ++ bitsL l)
    rw [ih, on_steps, steps_append]

/-! ### what comes to nought -/
theorem s1_eq (x t : BitVec 32) (ht : t.getLsbD 0 = false) : s1 x = t ↔ x = t >>> 1 := by
  constructor
  · intro h
    have hm : x.msb = false := by
      cases hx : x.msb with
      | false => rfl
      | true =>
        rw [s1, hx] at h
        have h0 : ((x <<< 1) ^^^ poly).getLsbD 0 = t.getLsbD 0 := congrArg (fun y => y.getLsbD 0) h
        rw [ht, BitVec.getLsbD_xor, BitVec.getLsbD_shiftLeft, show poly.getLsbD 0 = true from by decide] at h0
        simp at h0
    rw [s1, hm] at h
    subst h
    apply BitVec.eq_of_getLsbD_eq
    intro i hi
    rw [BitVec.msb_eq_getLsbD_last] at hm
    simp only [BitVec.getLsbD_ushiftRight]
    by_cases hi31 : i = 31
    · subst hi31
      simpa using hm
    · have hh : 1 + i < 32 := by omega
      simp only [Bool.false_eq_true, if_false, BitVec.getLsbD_shiftLeft]
      simp only [hh, decide_true, Bool.true_and, show 1 + i - 1 = i from by omega, show decide (1 + i < 1) = false from decide_eq_false (by omega), Bool.not_false]
  · intro h
    subst h
    have hm : (t >>> 1).msb = false := by
      rw [BitVec.msb_eq_getLsbD_last, BitVec.getLsbD_ushiftRight]
      exact BitVec.getLsbD_of_ge _ _ (by omega)
    rw [s1, hm]
    apply BitVec.eq_of_getLsbD_eq
    intro i hi
    simp only [Bool.false_eq_true, if_false, BitVec.getLsbD_shiftLeft, BitVec.getLsbD_ushiftRight]
    by_cases h0 : i = 0
    · subst h0
      rw [ht]
      rfl
    · simp [hi, show ¬ i < 1 from by omega, show 1 + (i - 1) = i from by omega]

def top : List Bool → BitVec 32
  | [] => 0#32
  | c :: l => top1 c ^^^ (top l >>> 1)

theorem top1_bit (c : Bool) : ∀ i, i < 32 → (top1 c).getLsbD i = (decide (i = 31) && c) := by cases c <;> decide

theorem top_bit (l : List Bool) : ∀ i, i < 32 → (top l).getLsbD i = l.getD (31 - i) false := by
  induction l with
  | nil => intro i _; simp [top]
  | cons c l ih =>
    intro i hi
    rw [top, BitVec.getLsbD_xor, top1_bit c i hi, BitVec.getLsbD_ushiftRight]
    by_cases h : i = 31
    · subst h
      rw [BitVec.getLsbD_of_ge _ _ (by omega)]
      simp
    · rw [ih _ (by omega), show 31 - i = (31 - (1 + i)) + 1 from by omega]
      simp [h]

theorem steps_top (l : List Bool) : ∀ r, l.length ≤ 32 → (steps r l = 0#32 ↔ r = top l) := by
  induction l with
  | nil => intro r _; rfl
  | cons c l ih =>
    intro r hl
    simp only [List.length_cons] at hl
    show steps (step r c) l = 0#32 ↔ _
    rw [ih _ (by omega), step, s1_eq _ _ (by rw [top_bit _ _ (by omega), getD_ge _ _ _ (by omega)]), top]
    constructor
    · intro h
      rw [← h, ← BitVec.xor_assoc, BitVec.xor_comm (top1 c), BitVec.xor_assoc, BitVec.xor_self]; simp
    · intro h
      rw [h, BitVec.xor_comm (top1 c), BitVec.xor_assoc, BitVec.xor_self]; simp

theorem top_zero (l : List Bool) (hl : l.length ≤ 32) (h : top l = 0#32) : ∀ c ∈ l, c = false := by
  intro c hc
  obtain ⟨k, hk, rfl⟩ := List.getElem_of_mem hc
  have := top_bit l (31 - k) (by omega)
  rw [h, show 31 - (31 - k) = k from by omega, getD_lt _ _ _ hk] at this
  simpa using this.symm

theorem s1_eq_zero (r : BitVec 32) : s1 r = 0#32 ↔ r = 0#32 := by
  rw [s1_eq r 0#32 (by decide)]
  simp

theorem steps_quiet (l : List Bool) (h : ∀ c ∈ l, c = false) : ∀ r, steps r l = 0#32 ↔ r = 0#32 := by
  induction l with
  | nil => intro r; rfl
  | cons c l ih =>
    intro r
    have hc : c = false := h c (by simp)
    subst hc
    show steps (step r false) l = 0#32 ↔ _
    rw [ih (fun c hc => h c (by simp [hc]))]
    have : step r false = s1 r := by simp [step, top1]
    rw [this, s1_eq_zero]

/-- bits within 32 that come to nought are none -/
theorem window (e : List Bool) (a : Nat) (h : ∀ k, k < e.length → (k < a ∨ a + 32 ≤ k) → e.getD k false = false) :
    steps 0#32 e = 0#32 ↔ ∀ c ∈ e, c = false := by
  constructor
  · intro h0
    have e1 : e = e.take a ++ ((e.drop a).take 32 ++ (e.drop a).drop 32) := by rw [List.take_append_drop, List.take_append_drop]
    have q1 : ∀ c ∈ e.take a, c = false := by
      intro c hc
      obtain ⟨k, hk, rfl⟩ := List.getElem_of_mem hc
      have hk' : k < a ∧ k < e.length := by rw [List.length_take] at hk; omega
      have := h k hk'.2 (.inl hk'.1)
      rw [getD_lt _ _ _ hk'.2] at this
      rw [List.getElem_take]; exact this
    have q3 : ∀ c ∈ (e.drop a).drop 32, c = false := by
      intro c hc
      obtain ⟨k, hk, rfl⟩ := List.getElem_of_mem hc
      have hk' : a + (32 + k) < e.length := by simp only [List.length_drop] at hk; omega
      have := h (a + (32 + k)) hk' (.inr (by omega))
      rw [getD_lt _ _ _ hk'] at this
      rw [List.getElem_drop, List.getElem_drop]; exact this
    rw [e1, steps_append, steps_append, steps_quiet _ q3] at h0
    have z1 : steps 0#32 (e.take a) = 0#32 := (steps_quiet _ q1 _).2 rfl
    rw [z1] at h0
    have hl : ((e.drop a).take 32).length ≤ 32 := by simp; omega
    have q2 := top_zero _ hl (((steps_top _ _ hl).1 h0).symm)
    intro c hc
    rw [e1, List.mem_append, List.mem_append] at hc
    rcases hc with hc | hc | hc
    · exact q1 c hc
    · exact q2 c hc
    · exact q3 c hc
  · intro h0
    exact (steps_quiet e h0 _).2 rfl

/-! ### bytes and bits -/
def bitAt (l : List UInt8) (k : Nat) : Bool := (l.getD (k / 8) 0).toNat.testBit (7 - k % 8)

theorem bitsL_length (l : List UInt8) : (bitsL l).length = 8 * l.length := by
  induction l with
  | nil => rfl
  | cons b l ih =>
    show (bits8 b ++ bitsL l).length = _
    rw [List.length_append, ih]
    simp [bits8]; omega

theorem bits8_get (b : UInt8) (k : Nat) (hk : k < 8) : (bits8 b).getD k false = b.toNat.testBit (7 - k) := by
  unfold bits8
  match k, hk with
  | 0, _ | 1, _ | 2, _ | 3, _ | 4, _ | 5, _ | 6, _ | 7, _ => rfl

theorem bitsL_get (l : List UInt8) : ∀ k, k < 8 * l.length → (bitsL l).getD k false = bitAt l k := by
  induction l with
  | nil => intro k hk; simp at hk
  | cons b l ih =>
    intro k hk
    simp only [List.length_cons] at hk
    show (bits8 b ++ bitsL l).getD k false = _
    have h8 : (bits8 b).length = 8 := rfl
    by_cases h : k < 8
    · rw [List.getD_eq_getElem?_getD, List.getElem?_append_left (by omega), ← List.getD_eq_getElem?_getD, bits8_get b k h]
      unfold bitAt
      rw [show k / 8 = 0 from by omega, show k % 8 = k from by omega]
      rfl
    · rw [List.getD_eq_getElem?_getD, List.getElem?_append_right (by omega), ← List.getD_eq_getElem?_getD, h8, ih _ (by omega)]
      unfold bitAt
      rw [show k / 8 = (k - 8) / 8 + 1 from by omega, show k % 8 = (k - 8) % 8 from by omega]
      rfl

theorem eq_of_bits (a b : List UInt8) (hl : a.length = b.length) (h : ∀ k, k < 8 * a.length → bitAt a k = bitAt b k) : a = b := by
  apply List.ext_getElem hl
  intro i h1 h2
  apply UInt8.toNat_inj.1
  apply Nat.eq_of_testBit_eq
  intro j
  by_cases hj : j < 8
  · have := h (8 * i + (7 - j)) (by omega)
    unfold bitAt at this
    rw [show (8 * i + (7 - j)) / 8 = i from by omega, show 7 - (8 * i + (7 - j)) % 8 = j from by omega, getD_lt _ _ _ h1, getD_lt _ _ _ h2] at this
    exact this
  · have hp : 2 ^ 8 ≤ 2 ^ j := Nat.pow_le_pow_right (by omega) (by omega)
    rw [Nat.testBit_lt_two_pow (Nat.lt_of_lt_of_le a[i].toNat_lt hp), Nat.testBit_lt_two_pow (Nat.lt_of_lt_of_le b[i].toNat_lt hp)]

/-! ### a sum's bytes -/
def byte (x : BitVec 32) : UInt8 := UInt8.ofNat x.toNat
def word (x : BitVec 32) : List UInt8 := [byte (x >>> 24), byte (x >>> 16), byte (x >>> 8), byte x]

theorem byte_bit (x : BitVec 32) (j : Nat) (hj : j < 8) : (byte x).toNat.testBit j = x.getLsbD j := by
  unfold byte
  rw [UInt8.toNat_ofNat', Nat.testBit_mod_two_pow]
  simp [hj, BitVec.getLsbD]

theorem word_bit (x : BitVec 32) (k : Nat) (hk : k < 32) : bitAt (word x) k = x.getLsbD (31 - k) := by
  have h4 : k / 8 = 0 ∨ k / 8 = 1 ∨ k / 8 = 2 ∨ k / 8 = 3 := by omega
  unfold bitAt
  rcases h4 with h | h | h | h
  · rw [h]
    show (byte (x >>> 24)).toNat.testBit _ = _
    rw [byte_bit _ _ (by omega), BitVec.getLsbD_ushiftRight]
    congr 1; omega
  · rw [h]
    show (byte (x >>> 16)).toNat.testBit _ = _
    rw [byte_bit _ _ (by omega), BitVec.getLsbD_ushiftRight]
    congr 1; omega
  · rw [h]
    show (byte (x >>> 8)).toNat.testBit _ = _
    rw [byte_bit _ _ (by omega), BitVec.getLsbD_ushiftRight]
    congr 1; omega
  · rw [h]
    show (byte x).toNat.testBit _ = _
    rw [byte_bit _ _ (by omega)]
    congr 1; omega

theorem top_word (x : BitVec 32) : top (bitsL (word x)) = x := by
  apply BitVec.eq_of_getLsbD_eq
  intro i hi
  rw [top_bit _ i hi, bitsL_get _ _ (by simp [word]; omega), word_bit _ _ (by omega)]
  congr 1; omega

theorem word_top (q : List UInt8) (hq : q.length = 4) : word (top (bitsL q)) = q := by
  apply eq_of_bits _ _ (by simp [word, hq])
  intro k hk
  simp only [word, List.length_cons, List.length_nil] at hk
  rw [word_bit _ _ (by omega), top_bit _ _ (by omega), show 31 - (31 - k) = k from by omega, bitsL_get _ _ (by omega)]

def fits (l : List UInt8) : Bool := decide (4 ≤ l.length ∧ l.drop (l.length - 4) = word (sum (l.take (l.length - 4))))
def seal_ (l : List UInt8) : List UInt8 := l ++ word (sum l)

theorem fits_seal (l : List UInt8) : fits (seal_ l) = true := by
  unfold fits seal_
  have hw : (word (sum l)).length = 4 := rfl
  rw [List.length_append, hw, Nat.add_sub_cancel, List.drop_left, List.take_left]
  simp

theorem zx_append (a b c d : List Bool) (h : a.length = c.length) : zx (a ++ b) (c ++ d) = zx a c ++ zx b d := by
  unfold zx; exact List.zipWith_append h

theorem top_zx (a b : List Bool) : a.length = b.length → top (zx a b) = top a ^^^ top b := by
  induction a generalizing b with
  | nil => intro h; cases b with
    | nil => simp [zx, top]
    | cons _ _ => simp at h
  | cons c a ih => intro h; cases b with
    | nil => simp at h
    | cons d b =>
      show top1 (xor c d) ^^^ (top (zx a b) >>> 1) = _
      have e : top1 (xor c d) = top1 c ^^^ top1 d := top1_xor c d
      rw [e, ih b (by simpa using h), BitVec.ushiftRight_xor_distrib, xor4]
      rfl

theorem bitsL_append (a b : List UInt8) : bitsL (a ++ b) = bitsL a ++ bitsL b := by simp [bitsL]

theorem xor_eq_zero (a b : BitVec 32) : a ^^^ b = 0#32 ↔ a = b := BitVec.xor_eq_zero_iff

theorem fits_steps (l bad : List UInt8) (hlen : bad.length = (seal_ l).length) : fits bad = true ↔ steps 0#32 (zx (bitsL (seal_ l)) (bitsL bad)) = 0#32 := by
  have hw : (word (sum l)).length = 4 := rfl
  have hs : (seal_ l).length = l.length + 4 := by unfold seal_; rw [List.length_append, hw]
  rw [hs] at hlen
  have eb : bad = bad.take l.length ++ bad.drop l.length := (List.take_append_drop _ _).symm
  have hp : (bad.take l.length).length = l.length := by rw [List.length_take]; omega
  have hq : (bad.drop l.length).length = 4 := by rw [List.length_drop]; omega
  have ef : fits bad = true ↔ bad.drop l.length = word (sum (bad.take l.length)) := by
    unfold fits
    rw [hlen, Nat.add_sub_cancel]
    simp
  rw [ef]
  generalize bad.take l.length = p at *
  generalize bad.drop l.length = q at *
  subst eb
  unfold seal_
  rw [bitsL_append, bitsL_append, zx_append _ _ _ _ (by rw [bitsL_length, bitsL_length, hp]), steps_append]
  have e1 : steps 0#32 (zx (bitsL l) (bitsL p)) = sum l ^^^ sum p := by
    have := steps_xor (bitsL l) (bitsL p) ones ones (by rw [bitsL_length, bitsL_length, hp])
    rw [BitVec.xor_self] at this
    rw [this, ← run_steps, ← run_steps]
    unfold sum
    rw [xor4, BitVec.xor_self]; simp
  have hz : (zx (bitsL (word (sum l))) (bitsL q)).length = 32 := by
    unfold zx
    rw [List.length_zipWith, bitsL_length, bitsL_length, hw, hq]; rfl
  rw [e1, steps_top _ _ (by omega), top_zx _ _ (by rw [bitsL_length, bitsL_length, hw, hq]), top_word]
  have e2 : (sum l ^^^ sum p = sum l ^^^ top (bitsL q)) ↔ (sum p = top (bitsL q)) := by
    constructor
    · intro h
      have := congrArg (fun x => sum l ^^^ x) h
      simpa [← BitVec.xor_assoc] using this
    · intro h; rw [h]
  rw [e2]
  constructor
  · intro h; rw [h, top_word]
  · intro h; rw [h, word_top q hq]

theorem zx_get (a b : List Bool) (h : a.length = b.length) (k : Nat) (hk : k < a.length) : (zx a b).getD k false = xor (a.getD k false) (b.getD k false) := by
  unfold zx
  rw [getD_lt _ _ _ (by rw [List.length_zipWith]; omega), List.getElem_zipWith, getD_lt _ _ _ hk, getD_lt _ _ _ (by omega)]

/-- ████ WHAT IS TURNED WITHIN 32 BITS IS TOLD, OR IT IS THE SAME -/
theorem burst (l bad : List UInt8) (a : Nat) (hlen : bad.length = (seal_ l).length)
    (h : ∀ k, k < 8 * bad.length → (k < a ∨ a + 32 ≤ k) → bitAt bad k = bitAt (seal_ l) k) : fits bad = decide (bad = seal_ l) := by
  rw [Bool.eq_iff_iff, decide_eq_true_iff, fits_steps l bad hlen]
  have hL : (bitsL (seal_ l)).length = (bitsL bad).length := by rw [bitsL_length, bitsL_length, hlen]
  have hz : (zx (bitsL (seal_ l)) (bitsL bad)).length = 8 * bad.length := by
    unfold zx
    rw [List.length_zipWith, ← hL, Nat.min_self, bitsL_length, hlen]
  rw [window _ a]
  · constructor
    · intro hq
      apply eq_of_bits _ _ hlen
      intro k hk
      have hk1 : k < (bitsL (seal_ l)).length := by rw [bitsL_length]; omega
      have h1 : (zx (bitsL (seal_ l)) (bitsL bad)).getD k false = false := by
        rw [getD_lt _ _ _ (by omega)]
        exact hq _ (List.getElem_mem _)
      rw [zx_get _ _ hL k hk1, bitsL_get _ _ (by omega), bitsL_get _ _ hk] at h1
      cases hb : bitAt bad k <;> cases hs : bitAt (seal_ l) k <;> simp [hb, hs] at h1 ⊢
    · intro he c hc
      subst he
      obtain ⟨k, hk, rfl⟩ := List.getElem_of_mem hc
      rw [← getD_lt _ false k hk, zx_get _ _ rfl k (by rw [bitsL_length]; omega)]
      simp
  · intro k hk hout
    rw [hz] at hk
    rw [zx_get _ _ hL k (by rw [bitsL_length]; omega), bitsL_get _ _ (by omega), bitsL_get _ _ hk, h k hk hout]
    simp

/-- three texts of one length, and all three xored -/
theorem on_xor3 (r q p : BitVec 32) (a b c d : UInt8) (h : d.toNat = (a.toNat ^^^ b.toNat) ^^^ c.toNat) : on r a ^^^ on q b ^^^ on p c = on (r ^^^ q ^^^ p) d := by
  have hd : hi d = hi a ^^^ hi b ^^^ hi c := by
    unfold hi
    rw [h, BitVec.ofNat_xor, BitVec.ofNat_xor, BitVec.shiftLeft_xor_distrib, BitVec.shiftLeft_xor_distrib]
  unfold on
  rw [← it_xor, ← it_xor, hd, xor4 r, xor4 (r ^^^ q)]

end Go.Proofs.Ytoeoigclleijmaa.CrcMath
