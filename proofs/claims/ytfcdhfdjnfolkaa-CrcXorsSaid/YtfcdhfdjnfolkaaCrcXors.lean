/-
  CrcXors is proved: the sums of three texts of one length, and of all three xored, are nought together, xored.
-/
import Derived.Test.YtfcdhfdjnfolkaaBase
import Derived.Test.YtfcdhfdjnfolkaaCrcAwake
import Derived.Test.YtfcdhfdjnfolkaaBase3
import Derived.Deep.DeepCutAuto
namespace Go.Proofs.Ytfcdhfdjnfolkaa.crcXors
open Go.ChangeShapes Go.WideShapes Go.ChangeAt Go.RowKit
set_option linter.unusedVariables false      -- a walk need not use every bound of an argument

open CrcMath CrcCalls

/-- the first k bytes -/
def acc (X : Nat → UInt8) (k : Nat) : ByteArray := ⟨((List.range k).map X).toArray⟩
theorem acc_size (X : Nat → UInt8) (k : Nat) : (acc X k).size = k := by simp [acc, ByteArray.size]
theorem acc_list (X : Nat → UInt8) (k : Nat) : (acc X k).data.toList = (List.range k).map X := rfl
def one (x : UInt8) : ByteArray := ⟨#[x]⟩
theorem acc_succ (X : Nat → UInt8) (k : Nat) : acc X k ++ one (X k) = acc X (k + 1) := by
  have e := ByteArray.mk_append_mk ((List.range k).map X) [X k]
  unfold acc one
  rw [List.range_succ, List.map_append]
  exact e
def x3 (X Y Z : Nat → UInt8) (i : Nat) : UInt8 := UInt8.ofNat (((X i).toNat ^^^ (Y i).toNat) ^^^ (Z i).toNat)
theorem x3_nat (X Y Z : Nat → UInt8) (i : Nat) : (x3 X Y Z i).toNat = ((X i).toNat ^^^ (Y i).toNat) ^^^ (Z i).toNat := by
  unfold x3
  rw [UInt8.toNat_ofNat', Nat.mod_eq_of_lt (Nat.xor_lt_two_pow (n := 8) (Nat.xor_lt_two_pow (n := 8) (X i).toNat_lt (Y i).toNat_lt) (Z i).toNat_lt)]
theorem x3_int (X Y Z : Nat → UInt8) (i : Nat) : bits .xor .u8 (bits .xor .u8 ((X i).toNat : Int) ((Y i).toNat : Int)) ((Z i).toNat : Int) = ((x3 X Y Z i).toNat : Int) := by
  rw [u8_xor_nat _ _ (X i).toNat_lt (Y i).toNat_lt, u8_xor_nat _ _ (Nat.xor_lt_two_pow (n := 8) (X i).toNat_lt (Y i).toNat_lt) (Z i).toNat_lt, x3_nat]

theorem run_acc (r : BitVec 32) (X : Nat → UInt8) (k : Nat) : run r (acc X (k + 1)).data.toList = on (run r (acc X k).data.toList) (X k) := by
  rw [acc_list, acc_list, List.range_succ, List.map_append, run, List.foldl_append]; rfl
theorem run_x3 (X Y Z : Nat → UInt8) (k : Nat) : run ones (acc X k).data.toList ^^^ run ones (acc Y k).data.toList ^^^ run ones (acc Z k).data.toList = run ones (acc (x3 X Y Z) k).data.toList := by
  induction k with
  | zero =>
    show ones ^^^ ones ^^^ ones = ones
    decide
  | succ k ih => rw [run_acc, run_acc, run_acc, run_acc, on_xor3 _ _ _ _ _ _ _ (x3_nat X Y Z k), ih]
theorem sum_x3 (X Y Z : Nat → UInt8) (k : Nat) : sum (acc X k).data.toList ^^^ sum (acc Y k).data.toList ^^^ sum (acc Z k).data.toList = sum (acc (x3 X Y Z) k).data.toList := by
  unfold sum
  rw [← run_x3]
  generalize run ones (acc X k).data.toList = a
  generalize run ones (acc Y k).data.toList = b
  generalize run ones (acc Z k).data.toList = c
  rw [xor4 a ones b ones, BitVec.xor_self, BitVec.xor_zero, BitVec.xor_assoc (a ^^^ b)]

theorem conv_at (w : World) (n : Nat) (x : UInt8) (h : w.cell? ⟨n, 0, none⟩ = some (.int .u8 (x.toNat : Int))) : (convert 42 9 (.slice (some ⟨n, 0, none⟩) 1 1)).run Try.prog w = .ok (.string (one x)) w := by
  refine run_convert_bytes_back (P := Try.prog) _ 42 9 5 ⟨n, 0, none⟩ 1 [x] Try.underlying42 Try.underlying5 Try.underlying9 (fun j hj => ?_)
  have hj0 : j = 0 := by simp at hj; omega
  subst hj0
  rw [add_plain, Nat.zero_add, h]; rfl
def cell1 (x : UInt8) : Obj := .cells #[.int .u8 (x.toNat : Int)] 5

/-- the sum of one text, in a slice of its own -/
theorem sum_one (B : Nat) (c : ByteArray) (W : World) (hT : Tab W B) (hs : c.size ≤ 140737488351232) :
    Calls Try.prog 12 #[.pointer (some ⟨B, 0, none⟩), .slice (some ⟨W.heap.size, 0, none⟩) 1 1] (W.alloc (.cells #[.string c] 9)) fun e w' => e = .returned (.int .u32 ((sum c.data.toList).toNat : Int)) ∧ Below W.heap.size W w' := by
  refine (sum_any B W.heap.size 0 1 1 (fun _ => c) _ (by omega) (hT.alloc _) (fun i hi => ?_) (fun _ _ => hs)).mono ?_
  · rw [World.cell?_alloc_at _ _ _ _ rfl, show 0 + i = 0 from by omega]; rfl
  rintro e w' ⟨rfl, q, rfl⟩
  rw [cat_one]
  exact ⟨rfl, below_drewN ((Below.refl _ _).alloc (Nat.le_refl _) _) q⟩

def o0 : Oper := { dst := some 23, op := Go.Op.move (Go.Operand.tmp 3), type := 9, pos := "law.go:103", after := #[], guard := none }
def o1 : Oper := { dst := some 24, op := Go.Op.indexAddr 41 (Go.Operand.tmp 8) (Go.Operand.const (Go.Value.int Go.IntKind.i64 0)), type := 0, pos := "law.go:103", after := #[], guard := none }
def o2 : Oper := { dst := some 25, op := Go.Op.load 5 (Go.Operand.tmp 24), type := 5, pos := "law.go:103", after := #[{ on := 1, ground := Go.Ground.data }], guard := none }
def o3 : Oper := { dst := some 26, op := Go.Op.buildSlice 42 1 #[(0, Go.Operand.tmp 25)], type := 42, pos := "law.go:103", after := #[{ on := 2, ground := Go.Ground.data }], guard := none }
def o4 : Oper := { dst := some 27, op := Go.Op.convert 42 9 (Go.Operand.tmp 26), type := 9, pos := "law.go:103", after := #[{ on := 3, ground := Go.Ground.data }], guard := none }
def o5 : Oper := { dst := some 28, op := Go.Op.binOp Go.BinOp.add 9 (Go.Operand.tmp 23) (Go.Operand.tmp 27) 9, type := 9, pos := "law.go:103", after := #[{ on := 0, ground := Go.Ground.data }, { on := 4, ground := Go.Ground.data }], guard := none }
def o6 : Oper := { dst := some 29, op := Go.Op.move (Go.Operand.tmp 4), type := 9, pos := "law.go:103", after := #[{ on := 30, ground := Go.Ground.gcOnly Go.Departure.lateStores }], guard := none }
def o7 : Oper := { dst := some 30, op := Go.Op.indexAddr 41 (Go.Operand.tmp 8) (Go.Operand.const (Go.Value.int Go.IntKind.i64 1)), type := 0, pos := "law.go:103", after := #[{ on := 30, ground := Go.Ground.gcOnly Go.Departure.lateStores }], guard := none }
def o8 : Oper := { dst := some 31, op := Go.Op.load 5 (Go.Operand.tmp 30), type := 5, pos := "law.go:103", after := #[{ on := 7, ground := Go.Ground.data }, { on := 30, ground := Go.Ground.gcOnly Go.Departure.lateStores }], guard := none }
def o9 : Oper := { dst := some 32, op := Go.Op.buildSlice 42 1 #[(0, Go.Operand.tmp 31)], type := 42, pos := "law.go:103", after := #[{ on := 8, ground := Go.Ground.data }, { on := 30, ground := Go.Ground.gcOnly Go.Departure.lateStores }], guard := none }
def o10 : Oper := { dst := some 33, op := Go.Op.convert 42 9 (Go.Operand.tmp 32), type := 9, pos := "law.go:103", after := #[{ on := 9, ground := Go.Ground.data }, { on := 30, ground := Go.Ground.gcOnly Go.Departure.lateStores }], guard := none }
def o11 : Oper := { dst := some 34, op := Go.Op.binOp Go.BinOp.add 9 (Go.Operand.tmp 29) (Go.Operand.tmp 33) 9, type := 9, pos := "law.go:103", after := #[{ on := 6, ground := Go.Ground.data }, { on := 10, ground := Go.Ground.data }, { on := 30, ground := Go.Ground.gcOnly Go.Departure.lateStores }], guard := none }
def o12 : Oper := { dst := some 35, op := Go.Op.move (Go.Operand.tmp 5), type := 9, pos := "law.go:103", after := #[{ on := 31, ground := Go.Ground.gcOnly Go.Departure.lateStores }], guard := none }
def o13 : Oper := { dst := some 36, op := Go.Op.indexAddr 41 (Go.Operand.tmp 8) (Go.Operand.const (Go.Value.int Go.IntKind.i64 2)), type := 0, pos := "law.go:103", after := #[{ on := 31, ground := Go.Ground.gcOnly Go.Departure.lateStores }], guard := none }
def o14 : Oper := { dst := some 37, op := Go.Op.load 5 (Go.Operand.tmp 36), type := 5, pos := "law.go:103", after := #[{ on := 13, ground := Go.Ground.data }, { on := 31, ground := Go.Ground.gcOnly Go.Departure.lateStores }], guard := none }
def o15 : Oper := { dst := some 38, op := Go.Op.buildSlice 42 1 #[(0, Go.Operand.tmp 37)], type := 42, pos := "law.go:103", after := #[{ on := 14, ground := Go.Ground.data }, { on := 31, ground := Go.Ground.gcOnly Go.Departure.lateStores }], guard := none }
def o16 : Oper := { dst := some 39, op := Go.Op.convert 42 9 (Go.Operand.tmp 38), type := 9, pos := "law.go:103", after := #[{ on := 15, ground := Go.Ground.data }, { on := 31, ground := Go.Ground.gcOnly Go.Departure.lateStores }], guard := none }
def o17 : Oper := { dst := some 40, op := Go.Op.binOp Go.BinOp.add 9 (Go.Operand.tmp 35) (Go.Operand.tmp 39) 9, type := 9, pos := "law.go:103", after := #[{ on := 12, ground := Go.Ground.data }, { on := 16, ground := Go.Ground.data }, { on := 31, ground := Go.Ground.gcOnly Go.Departure.lateStores }], guard := none }
def o18 : Oper := { dst := some 41, op := Go.Op.move (Go.Operand.tmp 6), type := 9, pos := "law.go:103", after := #[{ on := 32, ground := Go.Ground.gcOnly Go.Departure.lateStores }], guard := none }
def o19 : Oper := { dst := some 42, op := Go.Op.indexAddr 41 (Go.Operand.tmp 8) (Go.Operand.const (Go.Value.int Go.IntKind.i64 0)), type := 0, pos := "law.go:103", after := #[{ on := 32, ground := Go.Ground.gcOnly Go.Departure.lateStores }], guard := none }
def o20 : Oper := { dst := some 43, op := Go.Op.load 5 (Go.Operand.tmp 42), type := 5, pos := "law.go:103", after := #[{ on := 19, ground := Go.Ground.data }, { on := 32, ground := Go.Ground.gcOnly Go.Departure.lateStores }], guard := none }
def o21 : Oper := { dst := some 44, op := Go.Op.indexAddr 41 (Go.Operand.tmp 8) (Go.Operand.const (Go.Value.int Go.IntKind.i64 1)), type := 0, pos := "law.go:103", after := #[{ on := 32, ground := Go.Ground.gcOnly Go.Departure.lateStores }], guard := none }
def o22 : Oper := { dst := some 45, op := Go.Op.load 5 (Go.Operand.tmp 44), type := 5, pos := "law.go:103", after := #[{ on := 21, ground := Go.Ground.data }, { on := 32, ground := Go.Ground.gcOnly Go.Departure.lateStores }], guard := none }
def o23 : Oper := { dst := some 46, op := Go.Op.binOp Go.BinOp.xor 5 (Go.Operand.tmp 43) (Go.Operand.tmp 45) 5, type := 5, pos := "law.go:103", after := #[{ on := 20, ground := Go.Ground.data }, { on := 22, ground := Go.Ground.data }, { on := 32, ground := Go.Ground.gcOnly Go.Departure.lateStores }], guard := none }
def o24 : Oper := { dst := some 47, op := Go.Op.indexAddr 41 (Go.Operand.tmp 8) (Go.Operand.const (Go.Value.int Go.IntKind.i64 2)), type := 0, pos := "law.go:103", after := #[{ on := 32, ground := Go.Ground.gcOnly Go.Departure.lateStores }], guard := none }
def o25 : Oper := { dst := some 48, op := Go.Op.load 5 (Go.Operand.tmp 47), type := 5, pos := "law.go:103", after := #[{ on := 24, ground := Go.Ground.data }, { on := 32, ground := Go.Ground.gcOnly Go.Departure.lateStores }], guard := none }
def o26 : Oper := { dst := some 49, op := Go.Op.binOp Go.BinOp.xor 5 (Go.Operand.tmp 46) (Go.Operand.tmp 48) 5, type := 5, pos := "law.go:103", after := #[{ on := 23, ground := Go.Ground.data }, { on := 25, ground := Go.Ground.data }, { on := 32, ground := Go.Ground.gcOnly Go.Departure.lateStores }], guard := none }
def o27 : Oper := { dst := some 50, op := Go.Op.buildSlice 42 1 #[(0, Go.Operand.tmp 49)], type := 42, pos := "law.go:103", after := #[{ on := 26, ground := Go.Ground.data }, { on := 32, ground := Go.Ground.gcOnly Go.Departure.lateStores }], guard := none }
def o28 : Oper := { dst := some 51, op := Go.Op.convert 42 9 (Go.Operand.tmp 50), type := 9, pos := "law.go:103", after := #[{ on := 27, ground := Go.Ground.data }, { on := 32, ground := Go.Ground.gcOnly Go.Departure.lateStores }], guard := none }
def o29 : Oper := { dst := some 52, op := Go.Op.binOp Go.BinOp.add 9 (Go.Operand.tmp 41) (Go.Operand.tmp 51) 9, type := 9, pos := "law.go:103", after := #[{ on := 18, ground := Go.Ground.data }, { on := 28, ground := Go.Ground.data }, { on := 32, ground := Go.Ground.gcOnly Go.Departure.lateStores }], guard := none }
def o30 : Oper := { dst := some 3, op := Go.Op.assign (Go.Operand.tmp 28), type := 9, pos := "law.go:103", after := #[{ on := 5, ground := Go.Ground.data }, { on := 0, ground := Go.Ground.phase }, { on := 1, ground := Go.Ground.phase }, { on := 2, ground := Go.Ground.phase }, { on := 3, ground := Go.Ground.phase }, { on := 4, ground := Go.Ground.phase }, { on := 5, ground := Go.Ground.phase }, { on := 6, ground := Go.Ground.textOnly Go.Departure.lateStores }, { on := 7, ground := Go.Ground.textOnly Go.Departure.lateStores }, { on := 8, ground := Go.Ground.textOnly Go.Departure.lateStores }, { on := 9, ground := Go.Ground.textOnly Go.Departure.lateStores }, { on := 10, ground := Go.Ground.textOnly Go.Departure.lateStores }, { on := 11, ground := Go.Ground.textOnly Go.Departure.lateStores }, { on := 12, ground := Go.Ground.textOnly Go.Departure.lateStores }, { on := 13, ground := Go.Ground.textOnly Go.Departure.lateStores }, { on := 14, ground := Go.Ground.textOnly Go.Departure.lateStores }, { on := 15, ground := Go.Ground.textOnly Go.Departure.lateStores }, { on := 16, ground := Go.Ground.textOnly Go.Departure.lateStores }, { on := 17, ground := Go.Ground.textOnly Go.Departure.lateStores }, { on := 18, ground := Go.Ground.textOnly Go.Departure.lateStores }, { on := 19, ground := Go.Ground.textOnly Go.Departure.lateStores }, { on := 20, ground := Go.Ground.textOnly Go.Departure.lateStores }, { on := 21, ground := Go.Ground.textOnly Go.Departure.lateStores }, { on := 22, ground := Go.Ground.textOnly Go.Departure.lateStores }, { on := 23, ground := Go.Ground.textOnly Go.Departure.lateStores }, { on := 24, ground := Go.Ground.textOnly Go.Departure.lateStores }, { on := 25, ground := Go.Ground.textOnly Go.Departure.lateStores }, { on := 26, ground := Go.Ground.textOnly Go.Departure.lateStores }, { on := 27, ground := Go.Ground.textOnly Go.Departure.lateStores }, { on := 28, ground := Go.Ground.textOnly Go.Departure.lateStores }, { on := 29, ground := Go.Ground.textOnly Go.Departure.lateStores }], guard := none }
def o31 : Oper := { dst := some 4, op := Go.Op.assign (Go.Operand.tmp 34), type := 9, pos := "law.go:103", after := #[{ on := 11, ground := Go.Ground.data }, { on := 30, ground := Go.Ground.chain }, { on := 0, ground := Go.Ground.phase }, { on := 1, ground := Go.Ground.phase }, { on := 2, ground := Go.Ground.phase }, { on := 3, ground := Go.Ground.phase }, { on := 4, ground := Go.Ground.phase }, { on := 5, ground := Go.Ground.phase }, { on := 6, ground := Go.Ground.phase }, { on := 7, ground := Go.Ground.phase }, { on := 8, ground := Go.Ground.phase }, { on := 9, ground := Go.Ground.phase }, { on := 10, ground := Go.Ground.phase }, { on := 11, ground := Go.Ground.phase }, { on := 12, ground := Go.Ground.textOnly Go.Departure.lateStores }, { on := 13, ground := Go.Ground.textOnly Go.Departure.lateStores }, { on := 14, ground := Go.Ground.textOnly Go.Departure.lateStores }, { on := 15, ground := Go.Ground.textOnly Go.Departure.lateStores }, { on := 16, ground := Go.Ground.textOnly Go.Departure.lateStores }, { on := 17, ground := Go.Ground.textOnly Go.Departure.lateStores }, { on := 18, ground := Go.Ground.textOnly Go.Departure.lateStores }, { on := 19, ground := Go.Ground.textOnly Go.Departure.lateStores }, { on := 20, ground := Go.Ground.textOnly Go.Departure.lateStores }, { on := 21, ground := Go.Ground.textOnly Go.Departure.lateStores }, { on := 22, ground := Go.Ground.textOnly Go.Departure.lateStores }, { on := 23, ground := Go.Ground.textOnly Go.Departure.lateStores }, { on := 24, ground := Go.Ground.textOnly Go.Departure.lateStores }, { on := 25, ground := Go.Ground.textOnly Go.Departure.lateStores }, { on := 26, ground := Go.Ground.textOnly Go.Departure.lateStores }, { on := 27, ground := Go.Ground.textOnly Go.Departure.lateStores }, { on := 28, ground := Go.Ground.textOnly Go.Departure.lateStores }, { on := 29, ground := Go.Ground.textOnly Go.Departure.lateStores }, { on := 30, ground := Go.Ground.phase }], guard := none }
def o32 : Oper := { dst := some 5, op := Go.Op.assign (Go.Operand.tmp 40), type := 9, pos := "law.go:103", after := #[{ on := 17, ground := Go.Ground.data }, { on := 31, ground := Go.Ground.chain }, { on := 0, ground := Go.Ground.phase }, { on := 1, ground := Go.Ground.phase }, { on := 2, ground := Go.Ground.phase }, { on := 3, ground := Go.Ground.phase }, { on := 4, ground := Go.Ground.phase }, { on := 5, ground := Go.Ground.phase }, { on := 6, ground := Go.Ground.phase }, { on := 7, ground := Go.Ground.phase }, { on := 8, ground := Go.Ground.phase }, { on := 9, ground := Go.Ground.phase }, { on := 10, ground := Go.Ground.phase }, { on := 11, ground := Go.Ground.phase }, { on := 12, ground := Go.Ground.phase }, { on := 13, ground := Go.Ground.phase }, { on := 14, ground := Go.Ground.phase }, { on := 15, ground := Go.Ground.phase }, { on := 16, ground := Go.Ground.phase }, { on := 17, ground := Go.Ground.phase }, { on := 18, ground := Go.Ground.textOnly Go.Departure.lateStores }, { on := 19, ground := Go.Ground.textOnly Go.Departure.lateStores }, { on := 20, ground := Go.Ground.textOnly Go.Departure.lateStores }, { on := 21, ground := Go.Ground.textOnly Go.Departure.lateStores }, { on := 22, ground := Go.Ground.textOnly Go.Departure.lateStores }, { on := 23, ground := Go.Ground.textOnly Go.Departure.lateStores }, { on := 24, ground := Go.Ground.textOnly Go.Departure.lateStores }, { on := 25, ground := Go.Ground.textOnly Go.Departure.lateStores }, { on := 26, ground := Go.Ground.textOnly Go.Departure.lateStores }, { on := 27, ground := Go.Ground.textOnly Go.Departure.lateStores }, { on := 28, ground := Go.Ground.textOnly Go.Departure.lateStores }, { on := 29, ground := Go.Ground.textOnly Go.Departure.lateStores }, { on := 30, ground := Go.Ground.phase }, { on := 31, ground := Go.Ground.phase }], guard := none }
def o33 : Oper := { dst := some 6, op := Go.Op.assign (Go.Operand.tmp 52), type := 9, pos := "law.go:103", after := #[{ on := 29, ground := Go.Ground.data }, { on := 32, ground := Go.Ground.chain }, { on := 0, ground := Go.Ground.phase }, { on := 1, ground := Go.Ground.phase }, { on := 2, ground := Go.Ground.phase }, { on := 3, ground := Go.Ground.phase }, { on := 4, ground := Go.Ground.phase }, { on := 5, ground := Go.Ground.phase }, { on := 6, ground := Go.Ground.phase }, { on := 7, ground := Go.Ground.phase }, { on := 8, ground := Go.Ground.phase }, { on := 9, ground := Go.Ground.phase }, { on := 10, ground := Go.Ground.phase }, { on := 11, ground := Go.Ground.phase }, { on := 12, ground := Go.Ground.phase }, { on := 13, ground := Go.Ground.phase }, { on := 14, ground := Go.Ground.phase }, { on := 15, ground := Go.Ground.phase }, { on := 16, ground := Go.Ground.phase }, { on := 17, ground := Go.Ground.phase }, { on := 18, ground := Go.Ground.phase }, { on := 19, ground := Go.Ground.phase }, { on := 20, ground := Go.Ground.phase }, { on := 21, ground := Go.Ground.phase }, { on := 22, ground := Go.Ground.phase }, { on := 23, ground := Go.Ground.phase }, { on := 24, ground := Go.Ground.phase }, { on := 25, ground := Go.Ground.phase }, { on := 26, ground := Go.Ground.phase }, { on := 27, ground := Go.Ground.phase }, { on := 28, ground := Go.Ground.phase }, { on := 29, ground := Go.Ground.phase }, { on := 30, ground := Go.Ground.phase }, { on := 31, ground := Go.Ground.phase }, { on := 32, ground := Go.Ground.phase }], guard := none }
theorem wpAnyH_more {P : Program} {md : Region.Mode} {ops : Array Oper} {Q : Exit → Act → World → Prop} {S S' : World → Prop} (hSS : ∀ w, S' w → S w) :
    ∀ (fuel : Nat) (listed : Array Bool) (a : Act) (w : World), wpAnyH P md ops Q S' fuel listed a w → wpAnyH P md ops Q S fuel listed a w
  | 0, _, _, _, h => h
  | fuel + 1, _, _, _, h => ⟨h.1, fun i hi => wpOp_mono (fun a' w' h' => ⟨hSS _ h'.1, wpAnyH_more hSS fuel _ a' w' h'.2⟩) (h.2 i hi)⟩
theorem wpAnyH_with {P : Program} {md : Region.Mode} {ops : Array Oper} {Q : Exit → Act → World → Prop} {S : World → Prop} (S' : World → Prop) (hSS : ∀ w, S' w → S w)
    {fuel : Nat} {listed : Array Bool} {a : Act} {w : World} (hw : S' w) (h : S' w → wpAnyH P md ops Q S' fuel listed a w) : wpAnyH P md ops Q S fuel listed a w :=
  wpAnyH_more hSS fuel listed a w (h hw)
theorem kept {W : World} {p : Addr} {v : Value} (o : Obj) (h : W.drew.cell? p = some v) : (W.alloc o).drew.cell? p = some v := by
  have h' : W.cell? p = some v := h
  show (W.alloc o).cell? p = some v
  rw [World.cell?_alloc_some _ _ _ (by rw [h']; rfl)]
  exact h'
theorem newc {W : World} (v : Value) (t : TypeId) (n : Nat) (hn : n = W.heap.size) : (W.alloc (.cells #[v] t)).drew.cell? ⟨n, 0, none⟩ = some v := by
  show (W.alloc (.cells #[v] t)).cell? ⟨n, 0, none⟩ = some v
  rw [World.cell?_alloc_at _ _ _ _ hn]; rfl

/-- what stands in the slice -/
def Row (W : World) (a : Option Addr) (m : Nat) (X Y Z : Nat → UInt8) : Prop :=
  ∀ i, i < m → ∃ b off, a = some ⟨b, off, none⟩ ∧ b < W.heap.size ∧ W.cell? ⟨b, off + i * 3, none⟩ = some (.int .u8 ((X i).toNat : Int)) ∧
      W.cell? ⟨b, off + i * 3 + 1, none⟩ = some (.int .u8 ((Y i).toNat : Int)) ∧ W.cell? ⟨b, off + i * 3 + 2, none⟩ = some (.int .u8 ((Z i).toNat : Int))

set_option maxRecDepth 100000 in
set_option maxHeartbeats 1000000 in
theorem walk (w : World) (v0 : Value) (n : Nat) (X Y Z : Nat → UInt8) (h0 : Base.Triples w v0 n X Y Z) :
    Calls Try.prog 8 #[v0] w fun e w' => e = .returned (.bool true) ∧ Below w.heap.size w w' := by
  obtain ⟨a, cap, rfl, hnc, hcap, hcases⟩ := h0
  unfold maxLen at hcap
  have hz := zero_run
  have hrow : Row w a n X Y Z := by
    intro i hi
    rcases hcases with rfl | ⟨b, off, rfl, hb, hc⟩
    · omega
    · exact ⟨b, off, rfl, hb, hc i hi⟩
  have hnone : a = none → n = 0 := by
    intro h
    rcases hcases with rfl | ⟨b, off, rfl, hb, hc⟩
    · rfl
    · cases h
  have HR := Lib.hid hrow
  have HN := Lib.hid hnone
  clear hrow hnone hcases
  go_enter Try.func8, Try.ntmps8
  go_wp2_with fail
  refine (awake_any _).mono ?_; rintro e w1 ⟨rfl, hb1⟩
  go_upto_region 3 with (fail)
  go_cut [0] (fun s0 wx => ∃ m, s0 = .slice a m cap ∧ m ≤ n ∧ m ≤ 60 ∧ wx = w1)
  case first =>
    cases a with
    | none =>
      have h0 := HN.out rfl
      subst h0
      go_wp2_with fail
      go_meet
      exact ⟨0, rfl, Nat.le_refl _, by omega, rfl⟩
    | some ad =>
      by_cases h60 : n ≤ 60
      · go_wp2_with fail
        go_meet
        exact ⟨n, rfl, Nat.le_refl _, h60, rfl⟩
      · go_wp2_with fail
        go_meet
        exact ⟨60, rfl, by omega, by omega, rfl⟩
  case rest =>
    obtain ⟨m, rfl, hm, hm60, rfl⟩ := hcut
    go_wp2_with fail
    go_loopw [3, 4, 5, 6, 19] (fun sa sb sc sd i wr => ∃ k : Nat, k ≤ m ∧ sa = .string (acc X k) ∧ sb = .string (acc Y k) ∧ sc = .string (acc Z k) ∧ sd = .string (acc (x3 X Y Z) k) ∧ i = .int .i64 k ∧ Below wc.heap.size wc wr)
      (fun _ _ _ _ i _ => m - (intOf i).toNat)
    case atStart => exact ⟨0, by omega, rfl, rfl, rfl, rfl, rfl, Below.refl _ _⟩
    case round =>
      obtain ⟨k, hk, rfl, rfl, rfl, rfl, rfl, hb⟩ := hrel
      by_cases hlt : k < m
      · obtain ⟨b, off, rfl, hbw, hx, hy, hzz⟩ := HR.out k (by omega)
        have hto : ∀ o : Nat, wr.cell? ⟨b, o, none⟩ = w.cell? ⟨b, o, none⟩ := fun o => (hb.cell (p := ⟨b, o, none⟩) (Nat.lt_of_lt_of_le hbw hb1.size)).trans (hb1.cell (p := ⟨b, o, none⟩) hbw)
        rw [← hto] at hx hy hzz
        clear hto
        go_wp2_with fail
        have hb5 : Below wc.heap.size wc (wr.alloc (.cells #[.int .u8 ((X k).toNat : Int), .int .u8 ((Y k).toNat : Int), .int .u8 ((Z k).toNat : Int)] 41)) := hb.alloc hb.size _
        have hc0 : (wr.alloc (.cells #[.int .u8 ((X k).toNat : Int), .int .u8 ((Y k).toNat : Int), .int .u8 ((Z k).toNat : Int)] 41)).cell? ⟨wr.heap.size, 0, none⟩ = some (.int .u8 ((X k).toNat : Int)) := by rw [World.cell?_alloc_at _ _ _ _ rfl]; rfl
        have hc1 : (wr.alloc (.cells #[.int .u8 ((X k).toNat : Int), .int .u8 ((Y k).toNat : Int), .int .u8 ((Z k).toNat : Int)] 41)).cell? ⟨wr.heap.size, 1, none⟩ = some (.int .u8 ((Y k).toNat : Int)) := by rw [World.cell?_alloc_at _ _ _ _ rfl]; rfl
        have hc2 : (wr.alloc (.cells #[.int .u8 ((X k).toNat : Int), .int .u8 ((Y k).toNat : Int), .int .u8 ((Z k).toNat : Int)] 41)).cell? ⟨wr.heap.size, 2, none⟩ = some (.int .u8 ((Z k).toNat : Int)) := by rw [World.cell?_alloc_at _ _ _ _ rfl]; rfl
        clear hx hy hzz
        generalize wr.heap.size = V at *
        generalize wr.alloc (.cells #[.int .u8 ((X k).toNat : Int), .int .u8 ((Y k).toNat : Int), .int .u8 ((Z k).toNat : Int)] 41) = w5 at *
        have hx3 := x3_int X Y Z k
        have ha0 : ∀ w, (Op.stringOp .add (acc X k) (one (X k))).run Try.prog w = .ok (.string (acc X (k + 1))) w := fun w => by
          rw [run_string_add_sum _ _ _ (by rw [acc_size]; show k + 1 ≤ _; omega), acc_succ]
        have ha1 : ∀ w, (Op.stringOp .add (acc Y k) (one (Y k))).run Try.prog w = .ok (.string (acc Y (k + 1))) w := fun w => by
          rw [run_string_add_sum _ _ _ (by rw [acc_size]; show k + 1 ≤ _; omega), acc_succ]
        have ha2 : ∀ w, (Op.stringOp .add (acc Z k) (one (Z k))).run Try.prog w = .ok (.string (acc Z (k + 1))) w := fun w => by
          rw [run_string_add_sum _ _ _ (by rw [acc_size]; show k + 1 ≤ _; omega), acc_succ]
        have ha3 : ∀ w, (Op.stringOp .add (acc (x3 X Y Z) k) (one (x3 X Y Z k))).run Try.prog w = .ok (.string (acc (x3 X Y Z) (k + 1))) w := fun w => by
          rw [run_string_add_sum _ _ _ (by rw [acc_size]; show k + 1 ≤ _; omega), acc_succ]
        refine wp_region_held_drew (S := fun w' => w'.cell? ⟨V, 0, none⟩ = some (.int .u8 ((X k).toNat : Int)) ∧ w'.cell? ⟨V, 1, none⟩ = some (.int .u8 ((Y k).toNat : Int)) ∧ w'.cell? ⟨V, 2, none⟩ = some (.int .u8 ((Z k).toNat : Int))) (by kernel_rfl) ⟨hc0, hc1, hc2⟩ (fun hHeld => ?_)
        refine wpAnyH_take (i := 0) (oi := o0) (v := ?_) rfl (by kernel_rfl) (by kernel_rfl) (by kernel_rfl) (fun _ _ _ h => h) (Or.inl ⟨by rfl, ?_⟩) (by assumption) ?_
        rotate_left
        · (intro w hSw; (try dsimp only [o0] at hSw ⊢); go_simp <;> with_reducible rfl)
        simp only [o0, Act.put, List.setIfInBounds_toArray, List.set_cons_zero, List.set_cons_succ]
        refine wpAnyH_take (i := 1) (oi := o1) (v := ?_) rfl (by kernel_rfl) (by kernel_rfl) (by kernel_rfl) (fun _ _ _ h => h) (Or.inl ⟨by rfl, ?_⟩) (by assumption) ?_
        rotate_left
        · (intro w hSw; (try dsimp only [o1] at hSw ⊢); go_simp <;> with_reducible rfl)
        simp only [o1, Act.put, List.setIfInBounds_toArray, List.set_cons_zero, List.set_cons_succ]
        refine wpAnyH_take (i := 2) (oi := o2) (v := ?_) rfl (by kernel_rfl) (by kernel_rfl) (by kernel_rfl) (fun _ _ _ h => h) (Or.inl ⟨by rfl, ?_⟩) (by assumption) ?_
        rotate_left
        · (intro w hSw; (try dsimp only [o2] at hSw ⊢); go_simp <;> with_reducible rfl)
        simp only [o2, Act.put, List.setIfInBounds_toArray, List.set_cons_zero, List.set_cons_succ]
        refine wpAnyH_take (i := 6) (oi := o6) (v := ?_) rfl (by kernel_rfl) (by kernel_rfl) (by kernel_rfl) (fun _ _ _ h => h) (Or.inl ⟨by rfl, ?_⟩) (by assumption) ?_
        rotate_left
        · (intro w hSw; (try dsimp only [o6] at hSw ⊢); go_simp <;> with_reducible rfl)
        simp only [o6, Act.put, List.setIfInBounds_toArray, List.set_cons_zero, List.set_cons_succ]
        refine wpAnyH_take (i := 7) (oi := o7) (v := ?_) rfl (by kernel_rfl) (by kernel_rfl) (by kernel_rfl) (fun _ _ _ h => h) (Or.inl ⟨by rfl, ?_⟩) (by assumption) ?_
        rotate_left
        · (intro w hSw; (try dsimp only [o7] at hSw ⊢); go_simp <;> with_reducible rfl)
        simp only [o7, Act.put, List.setIfInBounds_toArray, List.set_cons_zero, List.set_cons_succ]
        refine wpAnyH_take (i := 8) (oi := o8) (v := ?_) rfl (by kernel_rfl) (by kernel_rfl) (by kernel_rfl) (fun _ _ _ h => h) (Or.inl ⟨by rfl, ?_⟩) (by assumption) ?_
        rotate_left
        · (intro w hSw; (try dsimp only [o8] at hSw ⊢); go_simp <;> with_reducible rfl)
        simp only [o8, Act.put, List.setIfInBounds_toArray, List.set_cons_zero, List.set_cons_succ]
        refine wpAnyH_take (i := 12) (oi := o12) (v := ?_) rfl (by kernel_rfl) (by kernel_rfl) (by kernel_rfl) (fun _ _ _ h => h) (Or.inl ⟨by rfl, ?_⟩) (by assumption) ?_
        rotate_left
        · (intro w hSw; (try dsimp only [o12] at hSw ⊢); go_simp <;> with_reducible rfl)
        simp only [o12, Act.put, List.setIfInBounds_toArray, List.set_cons_zero, List.set_cons_succ]
        refine wpAnyH_take (i := 13) (oi := o13) (v := ?_) rfl (by kernel_rfl) (by kernel_rfl) (by kernel_rfl) (fun _ _ _ h => h) (Or.inl ⟨by rfl, ?_⟩) (by assumption) ?_
        rotate_left
        · (intro w hSw; (try dsimp only [o13] at hSw ⊢); go_simp <;> with_reducible rfl)
        simp only [o13, Act.put, List.setIfInBounds_toArray, List.set_cons_zero, List.set_cons_succ]
        refine wpAnyH_take (i := 14) (oi := o14) (v := ?_) rfl (by kernel_rfl) (by kernel_rfl) (by kernel_rfl) (fun _ _ _ h => h) (Or.inl ⟨by rfl, ?_⟩) (by assumption) ?_
        rotate_left
        · (intro w hSw; (try dsimp only [o14] at hSw ⊢); go_simp <;> with_reducible rfl)
        simp only [o14, Act.put, List.setIfInBounds_toArray, List.set_cons_zero, List.set_cons_succ]
        refine wpAnyH_take (i := 18) (oi := o18) (v := ?_) rfl (by kernel_rfl) (by kernel_rfl) (by kernel_rfl) (fun _ _ _ h => h) (Or.inl ⟨by rfl, ?_⟩) (by assumption) ?_
        rotate_left
        · (intro w hSw; (try dsimp only [o18] at hSw ⊢); go_simp <;> with_reducible rfl)
        simp only [o18, Act.put, List.setIfInBounds_toArray, List.set_cons_zero, List.set_cons_succ]
        refine wpAnyH_take (i := 19) (oi := o19) (v := ?_) rfl (by kernel_rfl) (by kernel_rfl) (by kernel_rfl) (fun _ _ _ h => h) (Or.inl ⟨by rfl, ?_⟩) (by assumption) ?_
        rotate_left
        · (intro w hSw; (try dsimp only [o19] at hSw ⊢); go_simp <;> with_reducible rfl)
        simp only [o19, Act.put, List.setIfInBounds_toArray, List.set_cons_zero, List.set_cons_succ]
        refine wpAnyH_take (i := 20) (oi := o20) (v := ?_) rfl (by kernel_rfl) (by kernel_rfl) (by kernel_rfl) (fun _ _ _ h => h) (Or.inl ⟨by rfl, ?_⟩) (by assumption) ?_
        rotate_left
        · (intro w hSw; (try dsimp only [o20] at hSw ⊢); go_simp <;> with_reducible rfl)
        simp only [o20, Act.put, List.setIfInBounds_toArray, List.set_cons_zero, List.set_cons_succ]
        refine wpAnyH_take (i := 21) (oi := o21) (v := ?_) rfl (by kernel_rfl) (by kernel_rfl) (by kernel_rfl) (fun _ _ _ h => h) (Or.inl ⟨by rfl, ?_⟩) (by assumption) ?_
        rotate_left
        · (intro w hSw; (try dsimp only [o21] at hSw ⊢); go_simp <;> with_reducible rfl)
        simp only [o21, Act.put, List.setIfInBounds_toArray, List.set_cons_zero, List.set_cons_succ]
        refine wpAnyH_take (i := 22) (oi := o22) (v := ?_) rfl (by kernel_rfl) (by kernel_rfl) (by kernel_rfl) (fun _ _ _ h => h) (Or.inl ⟨by rfl, ?_⟩) (by assumption) ?_
        rotate_left
        · (intro w hSw; (try dsimp only [o22] at hSw ⊢); go_simp <;> with_reducible rfl)
        simp only [o22, Act.put, List.setIfInBounds_toArray, List.set_cons_zero, List.set_cons_succ]
        refine wpAnyH_take (i := 23) (oi := o23) (v := ?_) rfl (by kernel_rfl) (by kernel_rfl) (by kernel_rfl) (fun _ _ _ h => h) (Or.inl ⟨by rfl, ?_⟩) (by assumption) ?_
        rotate_left
        · (intro w hSw; (try dsimp only [o23] at hSw ⊢); go_simp <;> with_reducible rfl)
        simp only [o23, Act.put, List.setIfInBounds_toArray, List.set_cons_zero, List.set_cons_succ]
        refine wpAnyH_take (i := 24) (oi := o24) (v := ?_) rfl (by kernel_rfl) (by kernel_rfl) (by kernel_rfl) (fun _ _ _ h => h) (Or.inl ⟨by rfl, ?_⟩) (by assumption) ?_
        rotate_left
        · (intro w hSw; (try dsimp only [o24] at hSw ⊢); go_simp <;> with_reducible rfl)
        simp only [o24, Act.put, List.setIfInBounds_toArray, List.set_cons_zero, List.set_cons_succ]
        refine wpAnyH_take (i := 25) (oi := o25) (v := ?_) rfl (by kernel_rfl) (by kernel_rfl) (by kernel_rfl) (fun _ _ _ h => h) (Or.inl ⟨by rfl, ?_⟩) (by assumption) ?_
        rotate_left
        · (intro w hSw; (try dsimp only [o25] at hSw ⊢); go_simp <;> with_reducible rfl)
        simp only [o25, Act.put, List.setIfInBounds_toArray, List.set_cons_zero, List.set_cons_succ]
        refine wpAnyH_take (i := 26) (oi := o26) (v := ?_) rfl (by kernel_rfl) (by kernel_rfl) (by kernel_rfl) (fun _ _ _ h => h) (Or.inl ⟨by rfl, ?_⟩) (by assumption) ?_
        rotate_left
        · (intro w hSw; (try dsimp only [o26] at hSw ⊢); go_simp <;> with_reducible rfl)
        simp only [o26, Act.put, List.setIfInBounds_toArray, List.set_cons_zero, List.set_cons_succ]
        refine wpAnyH_ready (rs := [3, 9, 15, 27]) (by kernel_rfl) (by simp) ?_
        refine AllReadyH.cons rfl (fun K hK => ?_) ?_
        · go_simp
          refine hK.out _ _ ?_ (fun hHeld2 => ?_)
          · exact ⟨kept _ hHeld.1, kept _ hHeld.2.1, kept _ hHeld.2.2⟩
          clear hK K
          refine wpAnyH_with (fun w' : World => ((w'.cell? ⟨V, 0, none⟩ = some (.int .u8 ((X k).toNat : Int)) ∧ w'.cell? ⟨V, 1, none⟩ = some (.int .u8 ((Y k).toNat : Int)) ∧ w'.cell? ⟨V, 2, none⟩ = some (.int .u8 ((Z k).toNat : Int))) ∧ w'.cell? ⟨w5.heap.size, 0, none⟩ = some (.int .u8 ((X k).toNat : Int)))) (fun _ h => h.1) ⟨hHeld2, newc _ _ _ (by simp)⟩ (fun hHeld3 => ?_)
          clear hHeld2
          refine wpAnyH_take (i := 4) (oi := o4) (v := ?_) rfl (by kernel_rfl) (by kernel_rfl) (by kernel_rfl) (fun _ _ _ h => h) (Or.inl ⟨by rfl, ?_⟩) (by assumption) ?_
          rotate_left
          · (intro w hSw; have hcv := conv_at w _ (X k) hSw.2; (try dsimp only [o4]); go_simp <;> with_reducible rfl)
          simp only [o4, Act.put, List.setIfInBounds_toArray, List.set_cons_zero, List.set_cons_succ]
          refine wpAnyH_take (i := 5) (oi := o5) (v := ?_) rfl (by kernel_rfl) (by kernel_rfl) (by kernel_rfl) (fun _ _ _ h => h) (Or.inl ⟨by rfl, ?_⟩) (by assumption) ?_
          rotate_left
          · (intro w hSw; (try dsimp only [o5] at hSw ⊢); go_simp <;> with_reducible rfl)
          simp only [o5, Act.put, List.setIfInBounds_toArray, List.set_cons_zero, List.set_cons_succ]
          refine wpAnyH_take (i := 30) (oi := o30) (v := ?_) rfl (by kernel_rfl) (by kernel_rfl) (by kernel_rfl) (fun _ _ _ h => h) (Or.inl ⟨by rfl, ?_⟩) (by assumption) ?_
          rotate_left
          · (intro w hSw; (try dsimp only [o30] at hSw ⊢); go_simp <;> with_reducible rfl)
          simp only [o30, Act.put, List.setIfInBounds_toArray, List.set_cons_zero, List.set_cons_succ]
          have hHeld := hHeld3
          clear hHeld3
          refine wpAnyH_ready (rs := [9, 15, 27]) (by kernel_rfl) (by simp) ?_
          refine AllReadyH.cons rfl (fun K hK => ?_) ?_
          · go_simp
            refine hK.out _ _ ?_ (fun hHeld2 => ?_)
            · exact ⟨⟨kept _ hHeld.1.1, kept _ hHeld.1.2.1, kept _ hHeld.1.2.2⟩, kept _ hHeld.2⟩
            clear hK K
            refine wpAnyH_with (fun w' : World => (((w'.cell? ⟨V, 0, none⟩ = some (.int .u8 ((X k).toNat : Int)) ∧ w'.cell? ⟨V, 1, none⟩ = some (.int .u8 ((Y k).toNat : Int)) ∧ w'.cell? ⟨V, 2, none⟩ = some (.int .u8 ((Z k).toNat : Int))) ∧ w'.cell? ⟨w5.heap.size, 0, none⟩ = some (.int .u8 ((X k).toNat : Int))) ∧ w'.cell? ⟨w5.heap.size + 1, 0, none⟩ = some (.int .u8 ((Y k).toNat : Int)))) (fun _ h => h.1) ⟨hHeld2, newc _ _ _ (by simp)⟩ (fun hHeld3 => ?_)
            clear hHeld2
            refine wpAnyH_take (i := 10) (oi := o10) (v := ?_) rfl (by kernel_rfl) (by kernel_rfl) (by kernel_rfl) (fun _ _ _ h => h) (Or.inl ⟨by rfl, ?_⟩) (by assumption) ?_
            rotate_left
            · (intro w hSw; have hcv := conv_at w _ (Y k) hSw.2; (try dsimp only [o10]); go_simp <;> with_reducible rfl)
            simp only [o10, Act.put, List.setIfInBounds_toArray, List.set_cons_zero, List.set_cons_succ]
            refine wpAnyH_take (i := 11) (oi := o11) (v := ?_) rfl (by kernel_rfl) (by kernel_rfl) (by kernel_rfl) (fun _ _ _ h => h) (Or.inl ⟨by rfl, ?_⟩) (by assumption) ?_
            rotate_left
            · (intro w hSw; (try dsimp only [o11] at hSw ⊢); go_simp <;> with_reducible rfl)
            simp only [o11, Act.put, List.setIfInBounds_toArray, List.set_cons_zero, List.set_cons_succ]
            refine wpAnyH_take (i := 31) (oi := o31) (v := ?_) rfl (by kernel_rfl) (by kernel_rfl) (by kernel_rfl) (fun _ _ _ h => h) (Or.inl ⟨by rfl, ?_⟩) (by assumption) ?_
            rotate_left
            · (intro w hSw; (try dsimp only [o31] at hSw ⊢); go_simp <;> with_reducible rfl)
            simp only [o31, Act.put, List.setIfInBounds_toArray, List.set_cons_zero, List.set_cons_succ]
            have hHeld := hHeld3
            clear hHeld3
            refine wpAnyH_ready (rs := [15, 27]) (by kernel_rfl) (by simp) ?_
            refine AllReadyH.cons rfl (fun K hK => ?_) ?_
            · go_simp
              refine hK.out _ _ ?_ (fun hHeld2 => ?_)
              · exact ⟨⟨⟨kept _ hHeld.1.1.1, kept _ hHeld.1.1.2.1, kept _ hHeld.1.1.2.2⟩, kept _ hHeld.1.2⟩, kept _ hHeld.2⟩
              clear hK K
              refine wpAnyH_with (fun w' : World => ((((w'.cell? ⟨V, 0, none⟩ = some (.int .u8 ((X k).toNat : Int)) ∧ w'.cell? ⟨V, 1, none⟩ = some (.int .u8 ((Y k).toNat : Int)) ∧ w'.cell? ⟨V, 2, none⟩ = some (.int .u8 ((Z k).toNat : Int))) ∧ w'.cell? ⟨w5.heap.size, 0, none⟩ = some (.int .u8 ((X k).toNat : Int))) ∧ w'.cell? ⟨w5.heap.size + 1, 0, none⟩ = some (.int .u8 ((Y k).toNat : Int))) ∧ w'.cell? ⟨w5.heap.size + 1 + 1, 0, none⟩ = some (.int .u8 ((Z k).toNat : Int)))) (fun _ h => h.1) ⟨hHeld2, newc _ _ _ (by simp)⟩ (fun hHeld3 => ?_)
              clear hHeld2
              refine wpAnyH_take (i := 16) (oi := o16) (v := ?_) rfl (by kernel_rfl) (by kernel_rfl) (by kernel_rfl) (fun _ _ _ h => h) (Or.inl ⟨by rfl, ?_⟩) (by assumption) ?_
              rotate_left
              · (intro w hSw; have hcv := conv_at w _ (Z k) hSw.2; (try dsimp only [o16]); go_simp <;> with_reducible rfl)
              simp only [o16, Act.put, List.setIfInBounds_toArray, List.set_cons_zero, List.set_cons_succ]
              refine wpAnyH_take (i := 17) (oi := o17) (v := ?_) rfl (by kernel_rfl) (by kernel_rfl) (by kernel_rfl) (fun _ _ _ h => h) (Or.inl ⟨by rfl, ?_⟩) (by assumption) ?_
              rotate_left
              · (intro w hSw; (try dsimp only [o17] at hSw ⊢); go_simp <;> with_reducible rfl)
              simp only [o17, Act.put, List.setIfInBounds_toArray, List.set_cons_zero, List.set_cons_succ]
              refine wpAnyH_take (i := 32) (oi := o32) (v := ?_) rfl (by kernel_rfl) (by kernel_rfl) (by kernel_rfl) (fun _ _ _ h => h) (Or.inl ⟨by rfl, ?_⟩) (by assumption) ?_
              rotate_left
              · (intro w hSw; (try dsimp only [o32] at hSw ⊢); go_simp <;> with_reducible rfl)
              simp only [o32, Act.put, List.setIfInBounds_toArray, List.set_cons_zero, List.set_cons_succ]
              have hHeld := hHeld3
              clear hHeld3
              refine wpAnyH_ready (rs := [27]) (by kernel_rfl) (by simp) ?_
              refine AllReadyH.cons rfl (fun K hK => ?_) ?_
              · go_simp
                refine hK.out _ _ ?_ (fun hHeld2 => ?_)
                · exact ⟨⟨⟨⟨kept _ hHeld.1.1.1.1, kept _ hHeld.1.1.1.2.1, kept _ hHeld.1.1.1.2.2⟩, kept _ hHeld.1.1.2⟩, kept _ hHeld.1.2⟩, kept _ hHeld.2⟩
                clear hK K
                refine wpAnyH_with (fun w' : World => (((((w'.cell? ⟨V, 0, none⟩ = some (.int .u8 ((X k).toNat : Int)) ∧ w'.cell? ⟨V, 1, none⟩ = some (.int .u8 ((Y k).toNat : Int)) ∧ w'.cell? ⟨V, 2, none⟩ = some (.int .u8 ((Z k).toNat : Int))) ∧ w'.cell? ⟨w5.heap.size, 0, none⟩ = some (.int .u8 ((X k).toNat : Int))) ∧ w'.cell? ⟨w5.heap.size + 1, 0, none⟩ = some (.int .u8 ((Y k).toNat : Int))) ∧ w'.cell? ⟨w5.heap.size + 1 + 1, 0, none⟩ = some (.int .u8 ((Z k).toNat : Int))) ∧ w'.cell? ⟨w5.heap.size + 1 + 1 + 1, 0, none⟩ = some (.int .u8 ((x3 X Y Z k).toNat : Int)))) (fun _ h => h.1) ⟨hHeld2, newc _ _ _ (by simp)⟩ (fun hHeld3 => ?_)
                clear hHeld2
                refine wpAnyH_take (i := 28) (oi := o28) (v := ?_) rfl (by kernel_rfl) (by kernel_rfl) (by kernel_rfl) (fun _ _ _ h => h) (Or.inl ⟨by rfl, ?_⟩) (by assumption) ?_
                rotate_left
                · (intro w hSw; have hcv := conv_at w _ (x3 X Y Z k) hSw.2; (try dsimp only [o28]); go_simp <;> with_reducible rfl)
                simp only [o28, Act.put, List.setIfInBounds_toArray, List.set_cons_zero, List.set_cons_succ]
                refine wpAnyH_take (i := 29) (oi := o29) (v := ?_) rfl (by kernel_rfl) (by kernel_rfl) (by kernel_rfl) (fun _ _ _ h => h) (Or.inl ⟨by rfl, ?_⟩) (by assumption) ?_
                rotate_left
                · (intro w hSw; (try dsimp only [o29] at hSw ⊢); go_simp <;> with_reducible rfl)
                simp only [o29, Act.put, List.setIfInBounds_toArray, List.set_cons_zero, List.set_cons_succ]
                refine wpAnyH_take (i := 33) (oi := o33) (v := ?_) rfl (by kernel_rfl) (by kernel_rfl) (by kernel_rfl) (fun _ _ _ h => h) (Or.inl ⟨by rfl, ?_⟩) (by assumption) ?_
                rotate_left
                · (intro w hSw; (try dsimp only [o33] at hSw ⊢); go_simp <;> with_reducible rfl)
                simp only [o33, Act.put, List.setIfInBounds_toArray, List.set_cons_zero, List.set_cons_succ]
                have hHeld := hHeld3
                clear hHeld3
                refine wpAnyH_done (by kernel_rfl) ?_ _
                go_wp2_with fail
                go_roundw
                case rel => exact ⟨k + 1, by omega, rfl, rfl, rfl, rfl, by go_num, (((((hb5.alloc hb5.size _).alloc (by have := hb5.size; simp; omega) _).alloc (by have := hb5.size; simp; omega) _).alloc (by have := hb5.size; simp; omega) _).drew)⟩
                case measure => simp [intOf]; omega
              exact AllReadyH.nil
            refine AllReadyH.cons rfl (fun K hK => ?_) ?_
            · go_simp
              refine hK.out _ _ ?_ (fun hHeld2 => ?_)
              · exact ⟨⟨⟨kept _ hHeld.1.1.1, kept _ hHeld.1.1.2.1, kept _ hHeld.1.1.2.2⟩, kept _ hHeld.1.2⟩, kept _ hHeld.2⟩
              clear hK K
              refine wpAnyH_with (fun w' : World => ((((w'.cell? ⟨V, 0, none⟩ = some (.int .u8 ((X k).toNat : Int)) ∧ w'.cell? ⟨V, 1, none⟩ = some (.int .u8 ((Y k).toNat : Int)) ∧ w'.cell? ⟨V, 2, none⟩ = some (.int .u8 ((Z k).toNat : Int))) ∧ w'.cell? ⟨w5.heap.size, 0, none⟩ = some (.int .u8 ((X k).toNat : Int))) ∧ w'.cell? ⟨w5.heap.size + 1, 0, none⟩ = some (.int .u8 ((Y k).toNat : Int))) ∧ w'.cell? ⟨w5.heap.size + 1 + 1, 0, none⟩ = some (.int .u8 ((x3 X Y Z k).toNat : Int)))) (fun _ h => h.1) ⟨hHeld2, newc _ _ _ (by simp)⟩ (fun hHeld3 => ?_)
              clear hHeld2
              refine wpAnyH_take (i := 28) (oi := o28) (v := ?_) rfl (by kernel_rfl) (by kernel_rfl) (by kernel_rfl) (fun _ _ _ h => h) (Or.inl ⟨by rfl, ?_⟩) (by assumption) ?_
              rotate_left
              · (intro w hSw; have hcv := conv_at w _ (x3 X Y Z k) hSw.2; (try dsimp only [o28]); go_simp <;> with_reducible rfl)
              simp only [o28, Act.put, List.setIfInBounds_toArray, List.set_cons_zero, List.set_cons_succ]
              refine wpAnyH_take (i := 29) (oi := o29) (v := ?_) rfl (by kernel_rfl) (by kernel_rfl) (by kernel_rfl) (fun _ _ _ h => h) (Or.inl ⟨by rfl, ?_⟩) (by assumption) ?_
              rotate_left
              · (intro w hSw; (try dsimp only [o29] at hSw ⊢); go_simp <;> with_reducible rfl)
              simp only [o29, Act.put, List.setIfInBounds_toArray, List.set_cons_zero, List.set_cons_succ]
              have hHeld := hHeld3
              clear hHeld3
              refine wpAnyH_ready (rs := [15]) (by kernel_rfl) (by simp) ?_
              refine AllReadyH.cons rfl (fun K hK => ?_) ?_
              · go_simp
                refine hK.out _ _ ?_ (fun hHeld2 => ?_)
                · exact ⟨⟨⟨⟨kept _ hHeld.1.1.1.1, kept _ hHeld.1.1.1.2.1, kept _ hHeld.1.1.1.2.2⟩, kept _ hHeld.1.1.2⟩, kept _ hHeld.1.2⟩, kept _ hHeld.2⟩
                clear hK K
                refine wpAnyH_with (fun w' : World => (((((w'.cell? ⟨V, 0, none⟩ = some (.int .u8 ((X k).toNat : Int)) ∧ w'.cell? ⟨V, 1, none⟩ = some (.int .u8 ((Y k).toNat : Int)) ∧ w'.cell? ⟨V, 2, none⟩ = some (.int .u8 ((Z k).toNat : Int))) ∧ w'.cell? ⟨w5.heap.size, 0, none⟩ = some (.int .u8 ((X k).toNat : Int))) ∧ w'.cell? ⟨w5.heap.size + 1, 0, none⟩ = some (.int .u8 ((Y k).toNat : Int))) ∧ w'.cell? ⟨w5.heap.size + 1 + 1, 0, none⟩ = some (.int .u8 ((x3 X Y Z k).toNat : Int))) ∧ w'.cell? ⟨w5.heap.size + 1 + 1 + 1, 0, none⟩ = some (.int .u8 ((Z k).toNat : Int)))) (fun _ h => h.1) ⟨hHeld2, newc _ _ _ (by simp)⟩ (fun hHeld3 => ?_)
                clear hHeld2
                refine wpAnyH_take (i := 16) (oi := o16) (v := ?_) rfl (by kernel_rfl) (by kernel_rfl) (by kernel_rfl) (fun _ _ _ h => h) (Or.inl ⟨by rfl, ?_⟩) (by assumption) ?_
                rotate_left
                · (intro w hSw; have hcv := conv_at w _ (Z k) hSw.2; (try dsimp only [o16]); go_simp <;> with_reducible rfl)
                simp only [o16, Act.put, List.setIfInBounds_toArray, List.set_cons_zero, List.set_cons_succ]
                refine wpAnyH_take (i := 17) (oi := o17) (v := ?_) rfl (by kernel_rfl) (by kernel_rfl) (by kernel_rfl) (fun _ _ _ h => h) (Or.inl ⟨by rfl, ?_⟩) (by assumption) ?_
                rotate_left
                · (intro w hSw; (try dsimp only [o17] at hSw ⊢); go_simp <;> with_reducible rfl)
                simp only [o17, Act.put, List.setIfInBounds_toArray, List.set_cons_zero, List.set_cons_succ]
                refine wpAnyH_take (i := 32) (oi := o32) (v := ?_) rfl (by kernel_rfl) (by kernel_rfl) (by kernel_rfl) (fun _ _ _ h => h) (Or.inl ⟨by rfl, ?_⟩) (by assumption) ?_
                rotate_left
                · (intro w hSw; (try dsimp only [o32] at hSw ⊢); go_simp <;> with_reducible rfl)
                simp only [o32, Act.put, List.setIfInBounds_toArray, List.set_cons_zero, List.set_cons_succ]
                refine wpAnyH_take (i := 33) (oi := o33) (v := ?_) rfl (by kernel_rfl) (by kernel_rfl) (by kernel_rfl) (fun _ _ _ h => h) (Or.inl ⟨by rfl, ?_⟩) (by assumption) ?_
                rotate_left
                · (intro w hSw; (try dsimp only [o33] at hSw ⊢); go_simp <;> with_reducible rfl)
                simp only [o33, Act.put, List.setIfInBounds_toArray, List.set_cons_zero, List.set_cons_succ]
                have hHeld := hHeld3
                clear hHeld3
                refine wpAnyH_done (by kernel_rfl) ?_ _
                go_wp2_with fail
                go_roundw
                case rel => exact ⟨k + 1, by omega, rfl, rfl, rfl, rfl, by go_num, (((((hb5.alloc hb5.size _).alloc (by have := hb5.size; simp; omega) _).alloc (by have := hb5.size; simp; omega) _).alloc (by have := hb5.size; simp; omega) _).drew)⟩
                case measure => simp [intOf]; omega
              exact AllReadyH.nil
            exact AllReadyH.nil
          refine AllReadyH.cons rfl (fun K hK => ?_) ?_
          · go_simp
            refine hK.out _ _ ?_ (fun hHeld2 => ?_)
            · exact ⟨⟨kept _ hHeld.1.1, kept _ hHeld.1.2.1, kept _ hHeld.1.2.2⟩, kept _ hHeld.2⟩
            clear hK K
            refine wpAnyH_with (fun w' : World => (((w'.cell? ⟨V, 0, none⟩ = some (.int .u8 ((X k).toNat : Int)) ∧ w'.cell? ⟨V, 1, none⟩ = some (.int .u8 ((Y k).toNat : Int)) ∧ w'.cell? ⟨V, 2, none⟩ = some (.int .u8 ((Z k).toNat : Int))) ∧ w'.cell? ⟨w5.heap.size, 0, none⟩ = some (.int .u8 ((X k).toNat : Int))) ∧ w'.cell? ⟨w5.heap.size + 1, 0, none⟩ = some (.int .u8 ((Z k).toNat : Int)))) (fun _ h => h.1) ⟨hHeld2, newc _ _ _ (by simp)⟩ (fun hHeld3 => ?_)
            clear hHeld2
            refine wpAnyH_take (i := 16) (oi := o16) (v := ?_) rfl (by kernel_rfl) (by kernel_rfl) (by kernel_rfl) (fun _ _ _ h => h) (Or.inl ⟨by rfl, ?_⟩) (by assumption) ?_
            rotate_left
            · (intro w hSw; have hcv := conv_at w _ (Z k) hSw.2; (try dsimp only [o16]); go_simp <;> with_reducible rfl)
            simp only [o16, Act.put, List.setIfInBounds_toArray, List.set_cons_zero, List.set_cons_succ]
            refine wpAnyH_take (i := 17) (oi := o17) (v := ?_) rfl (by kernel_rfl) (by kernel_rfl) (by kernel_rfl) (fun _ _ _ h => h) (Or.inl ⟨by rfl, ?_⟩) (by assumption) ?_
            rotate_left
            · (intro w hSw; (try dsimp only [o17] at hSw ⊢); go_simp <;> with_reducible rfl)
            simp only [o17, Act.put, List.setIfInBounds_toArray, List.set_cons_zero, List.set_cons_succ]
            have hHeld := hHeld3
            clear hHeld3
            refine wpAnyH_ready (rs := [9, 27]) (by kernel_rfl) (by simp) ?_
            refine AllReadyH.cons rfl (fun K hK => ?_) ?_
            · go_simp
              refine hK.out _ _ ?_ (fun hHeld2 => ?_)
              · exact ⟨⟨⟨kept _ hHeld.1.1.1, kept _ hHeld.1.1.2.1, kept _ hHeld.1.1.2.2⟩, kept _ hHeld.1.2⟩, kept _ hHeld.2⟩
              clear hK K
              refine wpAnyH_with (fun w' : World => ((((w'.cell? ⟨V, 0, none⟩ = some (.int .u8 ((X k).toNat : Int)) ∧ w'.cell? ⟨V, 1, none⟩ = some (.int .u8 ((Y k).toNat : Int)) ∧ w'.cell? ⟨V, 2, none⟩ = some (.int .u8 ((Z k).toNat : Int))) ∧ w'.cell? ⟨w5.heap.size, 0, none⟩ = some (.int .u8 ((X k).toNat : Int))) ∧ w'.cell? ⟨w5.heap.size + 1, 0, none⟩ = some (.int .u8 ((Z k).toNat : Int))) ∧ w'.cell? ⟨w5.heap.size + 1 + 1, 0, none⟩ = some (.int .u8 ((Y k).toNat : Int)))) (fun _ h => h.1) ⟨hHeld2, newc _ _ _ (by simp)⟩ (fun hHeld3 => ?_)
              clear hHeld2
              refine wpAnyH_take (i := 10) (oi := o10) (v := ?_) rfl (by kernel_rfl) (by kernel_rfl) (by kernel_rfl) (fun _ _ _ h => h) (Or.inl ⟨by rfl, ?_⟩) (by assumption) ?_
              rotate_left
              · (intro w hSw; have hcv := conv_at w _ (Y k) hSw.2; (try dsimp only [o10]); go_simp <;> with_reducible rfl)
              simp only [o10, Act.put, List.setIfInBounds_toArray, List.set_cons_zero, List.set_cons_succ]
              refine wpAnyH_take (i := 11) (oi := o11) (v := ?_) rfl (by kernel_rfl) (by kernel_rfl) (by kernel_rfl) (fun _ _ _ h => h) (Or.inl ⟨by rfl, ?_⟩) (by assumption) ?_
              rotate_left
              · (intro w hSw; (try dsimp only [o11] at hSw ⊢); go_simp <;> with_reducible rfl)
              simp only [o11, Act.put, List.setIfInBounds_toArray, List.set_cons_zero, List.set_cons_succ]
              refine wpAnyH_take (i := 31) (oi := o31) (v := ?_) rfl (by kernel_rfl) (by kernel_rfl) (by kernel_rfl) (fun _ _ _ h => h) (Or.inl ⟨by rfl, ?_⟩) (by assumption) ?_
              rotate_left
              · (intro w hSw; (try dsimp only [o31] at hSw ⊢); go_simp <;> with_reducible rfl)
              simp only [o31, Act.put, List.setIfInBounds_toArray, List.set_cons_zero, List.set_cons_succ]
              refine wpAnyH_take (i := 32) (oi := o32) (v := ?_) rfl (by kernel_rfl) (by kernel_rfl) (by kernel_rfl) (fun _ _ _ h => h) (Or.inl ⟨by rfl, ?_⟩) (by assumption) ?_
              rotate_left
              · (intro w hSw; (try dsimp only [o32] at hSw ⊢); go_simp <;> with_reducible rfl)
              simp only [o32, Act.put, List.setIfInBounds_toArray, List.set_cons_zero, List.set_cons_succ]
              have hHeld := hHeld3
              clear hHeld3
              refine wpAnyH_ready (rs := [27]) (by kernel_rfl) (by simp) ?_
              refine AllReadyH.cons rfl (fun K hK => ?_) ?_
              · go_simp
                refine hK.out _ _ ?_ (fun hHeld2 => ?_)
                · exact ⟨⟨⟨⟨kept _ hHeld.1.1.1.1, kept _ hHeld.1.1.1.2.1, kept _ hHeld.1.1.1.2.2⟩, kept _ hHeld.1.1.2⟩, kept _ hHeld.1.2⟩, kept _ hHeld.2⟩
                clear hK K
                refine wpAnyH_with (fun w' : World => (((((w'.cell? ⟨V, 0, none⟩ = some (.int .u8 ((X k).toNat : Int)) ∧ w'.cell? ⟨V, 1, none⟩ = some (.int .u8 ((Y k).toNat : Int)) ∧ w'.cell? ⟨V, 2, none⟩ = some (.int .u8 ((Z k).toNat : Int))) ∧ w'.cell? ⟨w5.heap.size, 0, none⟩ = some (.int .u8 ((X k).toNat : Int))) ∧ w'.cell? ⟨w5.heap.size + 1, 0, none⟩ = some (.int .u8 ((Z k).toNat : Int))) ∧ w'.cell? ⟨w5.heap.size + 1 + 1, 0, none⟩ = some (.int .u8 ((Y k).toNat : Int))) ∧ w'.cell? ⟨w5.heap.size + 1 + 1 + 1, 0, none⟩ = some (.int .u8 ((x3 X Y Z k).toNat : Int)))) (fun _ h => h.1) ⟨hHeld2, newc _ _ _ (by simp)⟩ (fun hHeld3 => ?_)
                clear hHeld2
                refine wpAnyH_take (i := 28) (oi := o28) (v := ?_) rfl (by kernel_rfl) (by kernel_rfl) (by kernel_rfl) (fun _ _ _ h => h) (Or.inl ⟨by rfl, ?_⟩) (by assumption) ?_
                rotate_left
                · (intro w hSw; have hcv := conv_at w _ (x3 X Y Z k) hSw.2; (try dsimp only [o28]); go_simp <;> with_reducible rfl)
                simp only [o28, Act.put, List.setIfInBounds_toArray, List.set_cons_zero, List.set_cons_succ]
                refine wpAnyH_take (i := 29) (oi := o29) (v := ?_) rfl (by kernel_rfl) (by kernel_rfl) (by kernel_rfl) (fun _ _ _ h => h) (Or.inl ⟨by rfl, ?_⟩) (by assumption) ?_
                rotate_left
                · (intro w hSw; (try dsimp only [o29] at hSw ⊢); go_simp <;> with_reducible rfl)
                simp only [o29, Act.put, List.setIfInBounds_toArray, List.set_cons_zero, List.set_cons_succ]
                refine wpAnyH_take (i := 33) (oi := o33) (v := ?_) rfl (by kernel_rfl) (by kernel_rfl) (by kernel_rfl) (fun _ _ _ h => h) (Or.inl ⟨by rfl, ?_⟩) (by assumption) ?_
                rotate_left
                · (intro w hSw; (try dsimp only [o33] at hSw ⊢); go_simp <;> with_reducible rfl)
                simp only [o33, Act.put, List.setIfInBounds_toArray, List.set_cons_zero, List.set_cons_succ]
                have hHeld := hHeld3
                clear hHeld3
                refine wpAnyH_done (by kernel_rfl) ?_ _
                go_wp2_with fail
                go_roundw
                case rel => exact ⟨k + 1, by omega, rfl, rfl, rfl, rfl, by go_num, (((((hb5.alloc hb5.size _).alloc (by have := hb5.size; simp; omega) _).alloc (by have := hb5.size; simp; omega) _).alloc (by have := hb5.size; simp; omega) _).drew)⟩
                case measure => simp [intOf]; omega
              exact AllReadyH.nil
            refine AllReadyH.cons rfl (fun K hK => ?_) ?_
            · go_simp
              refine hK.out _ _ ?_ (fun hHeld2 => ?_)
              · exact ⟨⟨⟨kept _ hHeld.1.1.1, kept _ hHeld.1.1.2.1, kept _ hHeld.1.1.2.2⟩, kept _ hHeld.1.2⟩, kept _ hHeld.2⟩
              clear hK K
              refine wpAnyH_with (fun w' : World => ((((w'.cell? ⟨V, 0, none⟩ = some (.int .u8 ((X k).toNat : Int)) ∧ w'.cell? ⟨V, 1, none⟩ = some (.int .u8 ((Y k).toNat : Int)) ∧ w'.cell? ⟨V, 2, none⟩ = some (.int .u8 ((Z k).toNat : Int))) ∧ w'.cell? ⟨w5.heap.size, 0, none⟩ = some (.int .u8 ((X k).toNat : Int))) ∧ w'.cell? ⟨w5.heap.size + 1, 0, none⟩ = some (.int .u8 ((Z k).toNat : Int))) ∧ w'.cell? ⟨w5.heap.size + 1 + 1, 0, none⟩ = some (.int .u8 ((x3 X Y Z k).toNat : Int)))) (fun _ h => h.1) ⟨hHeld2, newc _ _ _ (by simp)⟩ (fun hHeld3 => ?_)
              clear hHeld2
              refine wpAnyH_take (i := 28) (oi := o28) (v := ?_) rfl (by kernel_rfl) (by kernel_rfl) (by kernel_rfl) (fun _ _ _ h => h) (Or.inl ⟨by rfl, ?_⟩) (by assumption) ?_
              rotate_left
              · (intro w hSw; have hcv := conv_at w _ (x3 X Y Z k) hSw.2; (try dsimp only [o28]); go_simp <;> with_reducible rfl)
              simp only [o28, Act.put, List.setIfInBounds_toArray, List.set_cons_zero, List.set_cons_succ]
              refine wpAnyH_take (i := 29) (oi := o29) (v := ?_) rfl (by kernel_rfl) (by kernel_rfl) (by kernel_rfl) (fun _ _ _ h => h) (Or.inl ⟨by rfl, ?_⟩) (by assumption) ?_
              rotate_left
              · (intro w hSw; (try dsimp only [o29] at hSw ⊢); go_simp <;> with_reducible rfl)
              simp only [o29, Act.put, List.setIfInBounds_toArray, List.set_cons_zero, List.set_cons_succ]
              have hHeld := hHeld3
              clear hHeld3
              refine wpAnyH_ready (rs := [9]) (by kernel_rfl) (by simp) ?_
              refine AllReadyH.cons rfl (fun K hK => ?_) ?_
              · go_simp
                refine hK.out _ _ ?_ (fun hHeld2 => ?_)
                · exact ⟨⟨⟨⟨kept _ hHeld.1.1.1.1, kept _ hHeld.1.1.1.2.1, kept _ hHeld.1.1.1.2.2⟩, kept _ hHeld.1.1.2⟩, kept _ hHeld.1.2⟩, kept _ hHeld.2⟩
                clear hK K
                refine wpAnyH_with (fun w' : World => (((((w'.cell? ⟨V, 0, none⟩ = some (.int .u8 ((X k).toNat : Int)) ∧ w'.cell? ⟨V, 1, none⟩ = some (.int .u8 ((Y k).toNat : Int)) ∧ w'.cell? ⟨V, 2, none⟩ = some (.int .u8 ((Z k).toNat : Int))) ∧ w'.cell? ⟨w5.heap.size, 0, none⟩ = some (.int .u8 ((X k).toNat : Int))) ∧ w'.cell? ⟨w5.heap.size + 1, 0, none⟩ = some (.int .u8 ((Z k).toNat : Int))) ∧ w'.cell? ⟨w5.heap.size + 1 + 1, 0, none⟩ = some (.int .u8 ((x3 X Y Z k).toNat : Int))) ∧ w'.cell? ⟨w5.heap.size + 1 + 1 + 1, 0, none⟩ = some (.int .u8 ((Y k).toNat : Int)))) (fun _ h => h.1) ⟨hHeld2, newc _ _ _ (by simp)⟩ (fun hHeld3 => ?_)
                clear hHeld2
                refine wpAnyH_take (i := 10) (oi := o10) (v := ?_) rfl (by kernel_rfl) (by kernel_rfl) (by kernel_rfl) (fun _ _ _ h => h) (Or.inl ⟨by rfl, ?_⟩) (by assumption) ?_
                rotate_left
                · (intro w hSw; have hcv := conv_at w _ (Y k) hSw.2; (try dsimp only [o10]); go_simp <;> with_reducible rfl)
                simp only [o10, Act.put, List.setIfInBounds_toArray, List.set_cons_zero, List.set_cons_succ]
                refine wpAnyH_take (i := 11) (oi := o11) (v := ?_) rfl (by kernel_rfl) (by kernel_rfl) (by kernel_rfl) (fun _ _ _ h => h) (Or.inl ⟨by rfl, ?_⟩) (by assumption) ?_
                rotate_left
                · (intro w hSw; (try dsimp only [o11] at hSw ⊢); go_simp <;> with_reducible rfl)
                simp only [o11, Act.put, List.setIfInBounds_toArray, List.set_cons_zero, List.set_cons_succ]
                refine wpAnyH_take (i := 31) (oi := o31) (v := ?_) rfl (by kernel_rfl) (by kernel_rfl) (by kernel_rfl) (fun _ _ _ h => h) (Or.inl ⟨by rfl, ?_⟩) (by assumption) ?_
                rotate_left
                · (intro w hSw; (try dsimp only [o31] at hSw ⊢); go_simp <;> with_reducible rfl)
                simp only [o31, Act.put, List.setIfInBounds_toArray, List.set_cons_zero, List.set_cons_succ]
                refine wpAnyH_take (i := 32) (oi := o32) (v := ?_) rfl (by kernel_rfl) (by kernel_rfl) (by kernel_rfl) (fun _ _ _ h => h) (Or.inl ⟨by rfl, ?_⟩) (by assumption) ?_
                rotate_left
                · (intro w hSw; (try dsimp only [o32] at hSw ⊢); go_simp <;> with_reducible rfl)
                simp only [o32, Act.put, List.setIfInBounds_toArray, List.set_cons_zero, List.set_cons_succ]
                refine wpAnyH_take (i := 33) (oi := o33) (v := ?_) rfl (by kernel_rfl) (by kernel_rfl) (by kernel_rfl) (fun _ _ _ h => h) (Or.inl ⟨by rfl, ?_⟩) (by assumption) ?_
                rotate_left
                · (intro w hSw; (try dsimp only [o33] at hSw ⊢); go_simp <;> with_reducible rfl)
                simp only [o33, Act.put, List.setIfInBounds_toArray, List.set_cons_zero, List.set_cons_succ]
                have hHeld := hHeld3
                clear hHeld3
                refine wpAnyH_done (by kernel_rfl) ?_ _
                go_wp2_with fail
                go_roundw
                case rel => exact ⟨k + 1, by omega, rfl, rfl, rfl, rfl, by go_num, (((((hb5.alloc hb5.size _).alloc (by have := hb5.size; simp; omega) _).alloc (by have := hb5.size; simp; omega) _).alloc (by have := hb5.size; simp; omega) _).drew)⟩
                case measure => simp [intOf]; omega
              exact AllReadyH.nil
            exact AllReadyH.nil
          refine AllReadyH.cons rfl (fun K hK => ?_) ?_
          · go_simp
            refine hK.out _ _ ?_ (fun hHeld2 => ?_)
            · exact ⟨⟨kept _ hHeld.1.1, kept _ hHeld.1.2.1, kept _ hHeld.1.2.2⟩, kept _ hHeld.2⟩
            clear hK K
            refine wpAnyH_with (fun w' : World => (((w'.cell? ⟨V, 0, none⟩ = some (.int .u8 ((X k).toNat : Int)) ∧ w'.cell? ⟨V, 1, none⟩ = some (.int .u8 ((Y k).toNat : Int)) ∧ w'.cell? ⟨V, 2, none⟩ = some (.int .u8 ((Z k).toNat : Int))) ∧ w'.cell? ⟨w5.heap.size, 0, none⟩ = some (.int .u8 ((X k).toNat : Int))) ∧ w'.cell? ⟨w5.heap.size + 1, 0, none⟩ = some (.int .u8 ((x3 X Y Z k).toNat : Int)))) (fun _ h => h.1) ⟨hHeld2, newc _ _ _ (by simp)⟩ (fun hHeld3 => ?_)
            clear hHeld2
            refine wpAnyH_take (i := 28) (oi := o28) (v := ?_) rfl (by kernel_rfl) (by kernel_rfl) (by kernel_rfl) (fun _ _ _ h => h) (Or.inl ⟨by rfl, ?_⟩) (by assumption) ?_
            rotate_left
            · (intro w hSw; have hcv := conv_at w _ (x3 X Y Z k) hSw.2; (try dsimp only [o28]); go_simp <;> with_reducible rfl)
            simp only [o28, Act.put, List.setIfInBounds_toArray, List.set_cons_zero, List.set_cons_succ]
            refine wpAnyH_take (i := 29) (oi := o29) (v := ?_) rfl (by kernel_rfl) (by kernel_rfl) (by kernel_rfl) (fun _ _ _ h => h) (Or.inl ⟨by rfl, ?_⟩) (by assumption) ?_
            rotate_left
            · (intro w hSw; (try dsimp only [o29] at hSw ⊢); go_simp <;> with_reducible rfl)
            simp only [o29, Act.put, List.setIfInBounds_toArray, List.set_cons_zero, List.set_cons_succ]
            have hHeld := hHeld3
            clear hHeld3
            refine wpAnyH_ready (rs := [9, 15]) (by kernel_rfl) (by simp) ?_
            refine AllReadyH.cons rfl (fun K hK => ?_) ?_
            · go_simp
              refine hK.out _ _ ?_ (fun hHeld2 => ?_)
              · exact ⟨⟨⟨kept _ hHeld.1.1.1, kept _ hHeld.1.1.2.1, kept _ hHeld.1.1.2.2⟩, kept _ hHeld.1.2⟩, kept _ hHeld.2⟩
              clear hK K
              refine wpAnyH_with (fun w' : World => ((((w'.cell? ⟨V, 0, none⟩ = some (.int .u8 ((X k).toNat : Int)) ∧ w'.cell? ⟨V, 1, none⟩ = some (.int .u8 ((Y k).toNat : Int)) ∧ w'.cell? ⟨V, 2, none⟩ = some (.int .u8 ((Z k).toNat : Int))) ∧ w'.cell? ⟨w5.heap.size, 0, none⟩ = some (.int .u8 ((X k).toNat : Int))) ∧ w'.cell? ⟨w5.heap.size + 1, 0, none⟩ = some (.int .u8 ((x3 X Y Z k).toNat : Int))) ∧ w'.cell? ⟨w5.heap.size + 1 + 1, 0, none⟩ = some (.int .u8 ((Y k).toNat : Int)))) (fun _ h => h.1) ⟨hHeld2, newc _ _ _ (by simp)⟩ (fun hHeld3 => ?_)
              clear hHeld2
              refine wpAnyH_take (i := 10) (oi := o10) (v := ?_) rfl (by kernel_rfl) (by kernel_rfl) (by kernel_rfl) (fun _ _ _ h => h) (Or.inl ⟨by rfl, ?_⟩) (by assumption) ?_
              rotate_left
              · (intro w hSw; have hcv := conv_at w _ (Y k) hSw.2; (try dsimp only [o10]); go_simp <;> with_reducible rfl)
              simp only [o10, Act.put, List.setIfInBounds_toArray, List.set_cons_zero, List.set_cons_succ]
              refine wpAnyH_take (i := 11) (oi := o11) (v := ?_) rfl (by kernel_rfl) (by kernel_rfl) (by kernel_rfl) (fun _ _ _ h => h) (Or.inl ⟨by rfl, ?_⟩) (by assumption) ?_
              rotate_left
              · (intro w hSw; (try dsimp only [o11] at hSw ⊢); go_simp <;> with_reducible rfl)
              simp only [o11, Act.put, List.setIfInBounds_toArray, List.set_cons_zero, List.set_cons_succ]
              refine wpAnyH_take (i := 31) (oi := o31) (v := ?_) rfl (by kernel_rfl) (by kernel_rfl) (by kernel_rfl) (fun _ _ _ h => h) (Or.inl ⟨by rfl, ?_⟩) (by assumption) ?_
              rotate_left
              · (intro w hSw; (try dsimp only [o31] at hSw ⊢); go_simp <;> with_reducible rfl)
              simp only [o31, Act.put, List.setIfInBounds_toArray, List.set_cons_zero, List.set_cons_succ]
              have hHeld := hHeld3
              clear hHeld3
              refine wpAnyH_ready (rs := [15]) (by kernel_rfl) (by simp) ?_
              refine AllReadyH.cons rfl (fun K hK => ?_) ?_
              · go_simp
                refine hK.out _ _ ?_ (fun hHeld2 => ?_)
                · exact ⟨⟨⟨⟨kept _ hHeld.1.1.1.1, kept _ hHeld.1.1.1.2.1, kept _ hHeld.1.1.1.2.2⟩, kept _ hHeld.1.1.2⟩, kept _ hHeld.1.2⟩, kept _ hHeld.2⟩
                clear hK K
                refine wpAnyH_with (fun w' : World => (((((w'.cell? ⟨V, 0, none⟩ = some (.int .u8 ((X k).toNat : Int)) ∧ w'.cell? ⟨V, 1, none⟩ = some (.int .u8 ((Y k).toNat : Int)) ∧ w'.cell? ⟨V, 2, none⟩ = some (.int .u8 ((Z k).toNat : Int))) ∧ w'.cell? ⟨w5.heap.size, 0, none⟩ = some (.int .u8 ((X k).toNat : Int))) ∧ w'.cell? ⟨w5.heap.size + 1, 0, none⟩ = some (.int .u8 ((x3 X Y Z k).toNat : Int))) ∧ w'.cell? ⟨w5.heap.size + 1 + 1, 0, none⟩ = some (.int .u8 ((Y k).toNat : Int))) ∧ w'.cell? ⟨w5.heap.size + 1 + 1 + 1, 0, none⟩ = some (.int .u8 ((Z k).toNat : Int)))) (fun _ h => h.1) ⟨hHeld2, newc _ _ _ (by simp)⟩ (fun hHeld3 => ?_)
                clear hHeld2
                refine wpAnyH_take (i := 16) (oi := o16) (v := ?_) rfl (by kernel_rfl) (by kernel_rfl) (by kernel_rfl) (fun _ _ _ h => h) (Or.inl ⟨by rfl, ?_⟩) (by assumption) ?_
                rotate_left
                · (intro w hSw; have hcv := conv_at w _ (Z k) hSw.2; (try dsimp only [o16]); go_simp <;> with_reducible rfl)
                simp only [o16, Act.put, List.setIfInBounds_toArray, List.set_cons_zero, List.set_cons_succ]
                refine wpAnyH_take (i := 17) (oi := o17) (v := ?_) rfl (by kernel_rfl) (by kernel_rfl) (by kernel_rfl) (fun _ _ _ h => h) (Or.inl ⟨by rfl, ?_⟩) (by assumption) ?_
                rotate_left
                · (intro w hSw; (try dsimp only [o17] at hSw ⊢); go_simp <;> with_reducible rfl)
                simp only [o17, Act.put, List.setIfInBounds_toArray, List.set_cons_zero, List.set_cons_succ]
                refine wpAnyH_take (i := 32) (oi := o32) (v := ?_) rfl (by kernel_rfl) (by kernel_rfl) (by kernel_rfl) (fun _ _ _ h => h) (Or.inl ⟨by rfl, ?_⟩) (by assumption) ?_
                rotate_left
                · (intro w hSw; (try dsimp only [o32] at hSw ⊢); go_simp <;> with_reducible rfl)
                simp only [o32, Act.put, List.setIfInBounds_toArray, List.set_cons_zero, List.set_cons_succ]
                refine wpAnyH_take (i := 33) (oi := o33) (v := ?_) rfl (by kernel_rfl) (by kernel_rfl) (by kernel_rfl) (fun _ _ _ h => h) (Or.inl ⟨by rfl, ?_⟩) (by assumption) ?_
                rotate_left
                · (intro w hSw; (try dsimp only [o33] at hSw ⊢); go_simp <;> with_reducible rfl)
                simp only [o33, Act.put, List.setIfInBounds_toArray, List.set_cons_zero, List.set_cons_succ]
                have hHeld := hHeld3
                clear hHeld3
                refine wpAnyH_done (by kernel_rfl) ?_ _
                go_wp2_with fail
                go_roundw
                case rel => exact ⟨k + 1, by omega, rfl, rfl, rfl, rfl, by go_num, (((((hb5.alloc hb5.size _).alloc (by have := hb5.size; simp; omega) _).alloc (by have := hb5.size; simp; omega) _).alloc (by have := hb5.size; simp; omega) _).drew)⟩
                case measure => simp [intOf]; omega
              exact AllReadyH.nil
            refine AllReadyH.cons rfl (fun K hK => ?_) ?_
            · go_simp
              refine hK.out _ _ ?_ (fun hHeld2 => ?_)
              · exact ⟨⟨⟨kept _ hHeld.1.1.1, kept _ hHeld.1.1.2.1, kept _ hHeld.1.1.2.2⟩, kept _ hHeld.1.2⟩, kept _ hHeld.2⟩
              clear hK K
              refine wpAnyH_with (fun w' : World => ((((w'.cell? ⟨V, 0, none⟩ = some (.int .u8 ((X k).toNat : Int)) ∧ w'.cell? ⟨V, 1, none⟩ = some (.int .u8 ((Y k).toNat : Int)) ∧ w'.cell? ⟨V, 2, none⟩ = some (.int .u8 ((Z k).toNat : Int))) ∧ w'.cell? ⟨w5.heap.size, 0, none⟩ = some (.int .u8 ((X k).toNat : Int))) ∧ w'.cell? ⟨w5.heap.size + 1, 0, none⟩ = some (.int .u8 ((x3 X Y Z k).toNat : Int))) ∧ w'.cell? ⟨w5.heap.size + 1 + 1, 0, none⟩ = some (.int .u8 ((Z k).toNat : Int)))) (fun _ h => h.1) ⟨hHeld2, newc _ _ _ (by simp)⟩ (fun hHeld3 => ?_)
              clear hHeld2
              refine wpAnyH_take (i := 16) (oi := o16) (v := ?_) rfl (by kernel_rfl) (by kernel_rfl) (by kernel_rfl) (fun _ _ _ h => h) (Or.inl ⟨by rfl, ?_⟩) (by assumption) ?_
              rotate_left
              · (intro w hSw; have hcv := conv_at w _ (Z k) hSw.2; (try dsimp only [o16]); go_simp <;> with_reducible rfl)
              simp only [o16, Act.put, List.setIfInBounds_toArray, List.set_cons_zero, List.set_cons_succ]
              refine wpAnyH_take (i := 17) (oi := o17) (v := ?_) rfl (by kernel_rfl) (by kernel_rfl) (by kernel_rfl) (fun _ _ _ h => h) (Or.inl ⟨by rfl, ?_⟩) (by assumption) ?_
              rotate_left
              · (intro w hSw; (try dsimp only [o17] at hSw ⊢); go_simp <;> with_reducible rfl)
              simp only [o17, Act.put, List.setIfInBounds_toArray, List.set_cons_zero, List.set_cons_succ]
              have hHeld := hHeld3
              clear hHeld3
              refine wpAnyH_ready (rs := [9]) (by kernel_rfl) (by simp) ?_
              refine AllReadyH.cons rfl (fun K hK => ?_) ?_
              · go_simp
                refine hK.out _ _ ?_ (fun hHeld2 => ?_)
                · exact ⟨⟨⟨⟨kept _ hHeld.1.1.1.1, kept _ hHeld.1.1.1.2.1, kept _ hHeld.1.1.1.2.2⟩, kept _ hHeld.1.1.2⟩, kept _ hHeld.1.2⟩, kept _ hHeld.2⟩
                clear hK K
                refine wpAnyH_with (fun w' : World => (((((w'.cell? ⟨V, 0, none⟩ = some (.int .u8 ((X k).toNat : Int)) ∧ w'.cell? ⟨V, 1, none⟩ = some (.int .u8 ((Y k).toNat : Int)) ∧ w'.cell? ⟨V, 2, none⟩ = some (.int .u8 ((Z k).toNat : Int))) ∧ w'.cell? ⟨w5.heap.size, 0, none⟩ = some (.int .u8 ((X k).toNat : Int))) ∧ w'.cell? ⟨w5.heap.size + 1, 0, none⟩ = some (.int .u8 ((x3 X Y Z k).toNat : Int))) ∧ w'.cell? ⟨w5.heap.size + 1 + 1, 0, none⟩ = some (.int .u8 ((Z k).toNat : Int))) ∧ w'.cell? ⟨w5.heap.size + 1 + 1 + 1, 0, none⟩ = some (.int .u8 ((Y k).toNat : Int)))) (fun _ h => h.1) ⟨hHeld2, newc _ _ _ (by simp)⟩ (fun hHeld3 => ?_)
                clear hHeld2
                refine wpAnyH_take (i := 10) (oi := o10) (v := ?_) rfl (by kernel_rfl) (by kernel_rfl) (by kernel_rfl) (fun _ _ _ h => h) (Or.inl ⟨by rfl, ?_⟩) (by assumption) ?_
                rotate_left
                · (intro w hSw; have hcv := conv_at w _ (Y k) hSw.2; (try dsimp only [o10]); go_simp <;> with_reducible rfl)
                simp only [o10, Act.put, List.setIfInBounds_toArray, List.set_cons_zero, List.set_cons_succ]
                refine wpAnyH_take (i := 11) (oi := o11) (v := ?_) rfl (by kernel_rfl) (by kernel_rfl) (by kernel_rfl) (fun _ _ _ h => h) (Or.inl ⟨by rfl, ?_⟩) (by assumption) ?_
                rotate_left
                · (intro w hSw; (try dsimp only [o11] at hSw ⊢); go_simp <;> with_reducible rfl)
                simp only [o11, Act.put, List.setIfInBounds_toArray, List.set_cons_zero, List.set_cons_succ]
                refine wpAnyH_take (i := 31) (oi := o31) (v := ?_) rfl (by kernel_rfl) (by kernel_rfl) (by kernel_rfl) (fun _ _ _ h => h) (Or.inl ⟨by rfl, ?_⟩) (by assumption) ?_
                rotate_left
                · (intro w hSw; (try dsimp only [o31] at hSw ⊢); go_simp <;> with_reducible rfl)
                simp only [o31, Act.put, List.setIfInBounds_toArray, List.set_cons_zero, List.set_cons_succ]
                refine wpAnyH_take (i := 32) (oi := o32) (v := ?_) rfl (by kernel_rfl) (by kernel_rfl) (by kernel_rfl) (fun _ _ _ h => h) (Or.inl ⟨by rfl, ?_⟩) (by assumption) ?_
                rotate_left
                · (intro w hSw; (try dsimp only [o32] at hSw ⊢); go_simp <;> with_reducible rfl)
                simp only [o32, Act.put, List.setIfInBounds_toArray, List.set_cons_zero, List.set_cons_succ]
                refine wpAnyH_take (i := 33) (oi := o33) (v := ?_) rfl (by kernel_rfl) (by kernel_rfl) (by kernel_rfl) (fun _ _ _ h => h) (Or.inl ⟨by rfl, ?_⟩) (by assumption) ?_
                rotate_left
                · (intro w hSw; (try dsimp only [o33] at hSw ⊢); go_simp <;> with_reducible rfl)
                simp only [o33, Act.put, List.setIfInBounds_toArray, List.set_cons_zero, List.set_cons_succ]
                have hHeld := hHeld3
                clear hHeld3
                refine wpAnyH_done (by kernel_rfl) ?_ _
                go_wp2_with fail
                go_roundw
                case rel => exact ⟨k + 1, by omega, rfl, rfl, rfl, rfl, by go_num, (((((hb5.alloc hb5.size _).alloc (by have := hb5.size; simp; omega) _).alloc (by have := hb5.size; simp; omega) _).alloc (by have := hb5.size; simp; omega) _).drew)⟩
                case measure => simp [intOf]; omega
              exact AllReadyH.nil
            exact AllReadyH.nil
          exact AllReadyH.nil
        refine AllReadyH.cons rfl (fun K hK => ?_) ?_
        · go_simp
          refine hK.out _ _ ?_ (fun hHeld2 => ?_)
          · exact ⟨kept _ hHeld.1, kept _ hHeld.2.1, kept _ hHeld.2.2⟩
          clear hK K
          refine wpAnyH_with (fun w' : World => ((w'.cell? ⟨V, 0, none⟩ = some (.int .u8 ((X k).toNat : Int)) ∧ w'.cell? ⟨V, 1, none⟩ = some (.int .u8 ((Y k).toNat : Int)) ∧ w'.cell? ⟨V, 2, none⟩ = some (.int .u8 ((Z k).toNat : Int))) ∧ w'.cell? ⟨w5.heap.size, 0, none⟩ = some (.int .u8 ((Y k).toNat : Int)))) (fun _ h => h.1) ⟨hHeld2, newc _ _ _ (by simp)⟩ (fun hHeld3 => ?_)
          clear hHeld2
          refine wpAnyH_take (i := 10) (oi := o10) (v := ?_) rfl (by kernel_rfl) (by kernel_rfl) (by kernel_rfl) (fun _ _ _ h => h) (Or.inl ⟨by rfl, ?_⟩) (by assumption) ?_
          rotate_left
          · (intro w hSw; have hcv := conv_at w _ (Y k) hSw.2; (try dsimp only [o10]); go_simp <;> with_reducible rfl)
          simp only [o10, Act.put, List.setIfInBounds_toArray, List.set_cons_zero, List.set_cons_succ]
          refine wpAnyH_take (i := 11) (oi := o11) (v := ?_) rfl (by kernel_rfl) (by kernel_rfl) (by kernel_rfl) (fun _ _ _ h => h) (Or.inl ⟨by rfl, ?_⟩) (by assumption) ?_
          rotate_left
          · (intro w hSw; (try dsimp only [o11] at hSw ⊢); go_simp <;> with_reducible rfl)
          simp only [o11, Act.put, List.setIfInBounds_toArray, List.set_cons_zero, List.set_cons_succ]
          have hHeld := hHeld3
          clear hHeld3
          refine wpAnyH_ready (rs := [3, 15, 27]) (by kernel_rfl) (by simp) ?_
          refine AllReadyH.cons rfl (fun K hK => ?_) ?_
          · go_simp
            refine hK.out _ _ ?_ (fun hHeld2 => ?_)
            · exact ⟨⟨kept _ hHeld.1.1, kept _ hHeld.1.2.1, kept _ hHeld.1.2.2⟩, kept _ hHeld.2⟩
            clear hK K
            refine wpAnyH_with (fun w' : World => (((w'.cell? ⟨V, 0, none⟩ = some (.int .u8 ((X k).toNat : Int)) ∧ w'.cell? ⟨V, 1, none⟩ = some (.int .u8 ((Y k).toNat : Int)) ∧ w'.cell? ⟨V, 2, none⟩ = some (.int .u8 ((Z k).toNat : Int))) ∧ w'.cell? ⟨w5.heap.size, 0, none⟩ = some (.int .u8 ((Y k).toNat : Int))) ∧ w'.cell? ⟨w5.heap.size + 1, 0, none⟩ = some (.int .u8 ((X k).toNat : Int)))) (fun _ h => h.1) ⟨hHeld2, newc _ _ _ (by simp)⟩ (fun hHeld3 => ?_)
            clear hHeld2
            refine wpAnyH_take (i := 4) (oi := o4) (v := ?_) rfl (by kernel_rfl) (by kernel_rfl) (by kernel_rfl) (fun _ _ _ h => h) (Or.inl ⟨by rfl, ?_⟩) (by assumption) ?_
            rotate_left
            · (intro w hSw; have hcv := conv_at w _ (X k) hSw.2; (try dsimp only [o4]); go_simp <;> with_reducible rfl)
            simp only [o4, Act.put, List.setIfInBounds_toArray, List.set_cons_zero, List.set_cons_succ]
            refine wpAnyH_take (i := 5) (oi := o5) (v := ?_) rfl (by kernel_rfl) (by kernel_rfl) (by kernel_rfl) (fun _ _ _ h => h) (Or.inl ⟨by rfl, ?_⟩) (by assumption) ?_
            rotate_left
            · (intro w hSw; (try dsimp only [o5] at hSw ⊢); go_simp <;> with_reducible rfl)
            simp only [o5, Act.put, List.setIfInBounds_toArray, List.set_cons_zero, List.set_cons_succ]
            refine wpAnyH_take (i := 30) (oi := o30) (v := ?_) rfl (by kernel_rfl) (by kernel_rfl) (by kernel_rfl) (fun _ _ _ h => h) (Or.inl ⟨by rfl, ?_⟩) (by assumption) ?_
            rotate_left
            · (intro w hSw; (try dsimp only [o30] at hSw ⊢); go_simp <;> with_reducible rfl)
            simp only [o30, Act.put, List.setIfInBounds_toArray, List.set_cons_zero, List.set_cons_succ]
            refine wpAnyH_take (i := 31) (oi := o31) (v := ?_) rfl (by kernel_rfl) (by kernel_rfl) (by kernel_rfl) (fun _ _ _ h => h) (Or.inl ⟨by rfl, ?_⟩) (by assumption) ?_
            rotate_left
            · (intro w hSw; (try dsimp only [o31] at hSw ⊢); go_simp <;> with_reducible rfl)
            simp only [o31, Act.put, List.setIfInBounds_toArray, List.set_cons_zero, List.set_cons_succ]
            have hHeld := hHeld3
            clear hHeld3
            refine wpAnyH_ready (rs := [15, 27]) (by kernel_rfl) (by simp) ?_
            refine AllReadyH.cons rfl (fun K hK => ?_) ?_
            · go_simp
              refine hK.out _ _ ?_ (fun hHeld2 => ?_)
              · exact ⟨⟨⟨kept _ hHeld.1.1.1, kept _ hHeld.1.1.2.1, kept _ hHeld.1.1.2.2⟩, kept _ hHeld.1.2⟩, kept _ hHeld.2⟩
              clear hK K
              refine wpAnyH_with (fun w' : World => ((((w'.cell? ⟨V, 0, none⟩ = some (.int .u8 ((X k).toNat : Int)) ∧ w'.cell? ⟨V, 1, none⟩ = some (.int .u8 ((Y k).toNat : Int)) ∧ w'.cell? ⟨V, 2, none⟩ = some (.int .u8 ((Z k).toNat : Int))) ∧ w'.cell? ⟨w5.heap.size, 0, none⟩ = some (.int .u8 ((Y k).toNat : Int))) ∧ w'.cell? ⟨w5.heap.size + 1, 0, none⟩ = some (.int .u8 ((X k).toNat : Int))) ∧ w'.cell? ⟨w5.heap.size + 1 + 1, 0, none⟩ = some (.int .u8 ((Z k).toNat : Int)))) (fun _ h => h.1) ⟨hHeld2, newc _ _ _ (by simp)⟩ (fun hHeld3 => ?_)
              clear hHeld2
              refine wpAnyH_take (i := 16) (oi := o16) (v := ?_) rfl (by kernel_rfl) (by kernel_rfl) (by kernel_rfl) (fun _ _ _ h => h) (Or.inl ⟨by rfl, ?_⟩) (by assumption) ?_
              rotate_left
              · (intro w hSw; have hcv := conv_at w _ (Z k) hSw.2; (try dsimp only [o16]); go_simp <;> with_reducible rfl)
              simp only [o16, Act.put, List.setIfInBounds_toArray, List.set_cons_zero, List.set_cons_succ]
              refine wpAnyH_take (i := 17) (oi := o17) (v := ?_) rfl (by kernel_rfl) (by kernel_rfl) (by kernel_rfl) (fun _ _ _ h => h) (Or.inl ⟨by rfl, ?_⟩) (by assumption) ?_
              rotate_left
              · (intro w hSw; (try dsimp only [o17] at hSw ⊢); go_simp <;> with_reducible rfl)
              simp only [o17, Act.put, List.setIfInBounds_toArray, List.set_cons_zero, List.set_cons_succ]
              refine wpAnyH_take (i := 32) (oi := o32) (v := ?_) rfl (by kernel_rfl) (by kernel_rfl) (by kernel_rfl) (fun _ _ _ h => h) (Or.inl ⟨by rfl, ?_⟩) (by assumption) ?_
              rotate_left
              · (intro w hSw; (try dsimp only [o32] at hSw ⊢); go_simp <;> with_reducible rfl)
              simp only [o32, Act.put, List.setIfInBounds_toArray, List.set_cons_zero, List.set_cons_succ]
              have hHeld := hHeld3
              clear hHeld3
              refine wpAnyH_ready (rs := [27]) (by kernel_rfl) (by simp) ?_
              refine AllReadyH.cons rfl (fun K hK => ?_) ?_
              · go_simp
                refine hK.out _ _ ?_ (fun hHeld2 => ?_)
                · exact ⟨⟨⟨⟨kept _ hHeld.1.1.1.1, kept _ hHeld.1.1.1.2.1, kept _ hHeld.1.1.1.2.2⟩, kept _ hHeld.1.1.2⟩, kept _ hHeld.1.2⟩, kept _ hHeld.2⟩
                clear hK K
                refine wpAnyH_with (fun w' : World => (((((w'.cell? ⟨V, 0, none⟩ = some (.int .u8 ((X k).toNat : Int)) ∧ w'.cell? ⟨V, 1, none⟩ = some (.int .u8 ((Y k).toNat : Int)) ∧ w'.cell? ⟨V, 2, none⟩ = some (.int .u8 ((Z k).toNat : Int))) ∧ w'.cell? ⟨w5.heap.size, 0, none⟩ = some (.int .u8 ((Y k).toNat : Int))) ∧ w'.cell? ⟨w5.heap.size + 1, 0, none⟩ = some (.int .u8 ((X k).toNat : Int))) ∧ w'.cell? ⟨w5.heap.size + 1 + 1, 0, none⟩ = some (.int .u8 ((Z k).toNat : Int))) ∧ w'.cell? ⟨w5.heap.size + 1 + 1 + 1, 0, none⟩ = some (.int .u8 ((x3 X Y Z k).toNat : Int)))) (fun _ h => h.1) ⟨hHeld2, newc _ _ _ (by simp)⟩ (fun hHeld3 => ?_)
                clear hHeld2
                refine wpAnyH_take (i := 28) (oi := o28) (v := ?_) rfl (by kernel_rfl) (by kernel_rfl) (by kernel_rfl) (fun _ _ _ h => h) (Or.inl ⟨by rfl, ?_⟩) (by assumption) ?_
                rotate_left
                · (intro w hSw; have hcv := conv_at w _ (x3 X Y Z k) hSw.2; (try dsimp only [o28]); go_simp <;> with_reducible rfl)
                simp only [o28, Act.put, List.setIfInBounds_toArray, List.set_cons_zero, List.set_cons_succ]
                refine wpAnyH_take (i := 29) (oi := o29) (v := ?_) rfl (by kernel_rfl) (by kernel_rfl) (by kernel_rfl) (fun _ _ _ h => h) (Or.inl ⟨by rfl, ?_⟩) (by assumption) ?_
                rotate_left
                · (intro w hSw; (try dsimp only [o29] at hSw ⊢); go_simp <;> with_reducible rfl)
                simp only [o29, Act.put, List.setIfInBounds_toArray, List.set_cons_zero, List.set_cons_succ]
                refine wpAnyH_take (i := 33) (oi := o33) (v := ?_) rfl (by kernel_rfl) (by kernel_rfl) (by kernel_rfl) (fun _ _ _ h => h) (Or.inl ⟨by rfl, ?_⟩) (by assumption) ?_
                rotate_left
                · (intro w hSw; (try dsimp only [o33] at hSw ⊢); go_simp <;> with_reducible rfl)
                simp only [o33, Act.put, List.setIfInBounds_toArray, List.set_cons_zero, List.set_cons_succ]
                have hHeld := hHeld3
                clear hHeld3
                refine wpAnyH_done (by kernel_rfl) ?_ _
                go_wp2_with fail
                go_roundw
                case rel => exact ⟨k + 1, by omega, rfl, rfl, rfl, rfl, by go_num, (((((hb5.alloc hb5.size _).alloc (by have := hb5.size; simp; omega) _).alloc (by have := hb5.size; simp; omega) _).alloc (by have := hb5.size; simp; omega) _).drew)⟩
                case measure => simp [intOf]; omega
              exact AllReadyH.nil
            refine AllReadyH.cons rfl (fun K hK => ?_) ?_
            · go_simp
              refine hK.out _ _ ?_ (fun hHeld2 => ?_)
              · exact ⟨⟨⟨kept _ hHeld.1.1.1, kept _ hHeld.1.1.2.1, kept _ hHeld.1.1.2.2⟩, kept _ hHeld.1.2⟩, kept _ hHeld.2⟩
              clear hK K
              refine wpAnyH_with (fun w' : World => ((((w'.cell? ⟨V, 0, none⟩ = some (.int .u8 ((X k).toNat : Int)) ∧ w'.cell? ⟨V, 1, none⟩ = some (.int .u8 ((Y k).toNat : Int)) ∧ w'.cell? ⟨V, 2, none⟩ = some (.int .u8 ((Z k).toNat : Int))) ∧ w'.cell? ⟨w5.heap.size, 0, none⟩ = some (.int .u8 ((Y k).toNat : Int))) ∧ w'.cell? ⟨w5.heap.size + 1, 0, none⟩ = some (.int .u8 ((X k).toNat : Int))) ∧ w'.cell? ⟨w5.heap.size + 1 + 1, 0, none⟩ = some (.int .u8 ((x3 X Y Z k).toNat : Int)))) (fun _ h => h.1) ⟨hHeld2, newc _ _ _ (by simp)⟩ (fun hHeld3 => ?_)
              clear hHeld2
              refine wpAnyH_take (i := 28) (oi := o28) (v := ?_) rfl (by kernel_rfl) (by kernel_rfl) (by kernel_rfl) (fun _ _ _ h => h) (Or.inl ⟨by rfl, ?_⟩) (by assumption) ?_
              rotate_left
              · (intro w hSw; have hcv := conv_at w _ (x3 X Y Z k) hSw.2; (try dsimp only [o28]); go_simp <;> with_reducible rfl)
              simp only [o28, Act.put, List.setIfInBounds_toArray, List.set_cons_zero, List.set_cons_succ]
              refine wpAnyH_take (i := 29) (oi := o29) (v := ?_) rfl (by kernel_rfl) (by kernel_rfl) (by kernel_rfl) (fun _ _ _ h => h) (Or.inl ⟨by rfl, ?_⟩) (by assumption) ?_
              rotate_left
              · (intro w hSw; (try dsimp only [o29] at hSw ⊢); go_simp <;> with_reducible rfl)
              simp only [o29, Act.put, List.setIfInBounds_toArray, List.set_cons_zero, List.set_cons_succ]
              have hHeld := hHeld3
              clear hHeld3
              refine wpAnyH_ready (rs := [15]) (by kernel_rfl) (by simp) ?_
              refine AllReadyH.cons rfl (fun K hK => ?_) ?_
              · go_simp
                refine hK.out _ _ ?_ (fun hHeld2 => ?_)
                · exact ⟨⟨⟨⟨kept _ hHeld.1.1.1.1, kept _ hHeld.1.1.1.2.1, kept _ hHeld.1.1.1.2.2⟩, kept _ hHeld.1.1.2⟩, kept _ hHeld.1.2⟩, kept _ hHeld.2⟩
                clear hK K
                refine wpAnyH_with (fun w' : World => (((((w'.cell? ⟨V, 0, none⟩ = some (.int .u8 ((X k).toNat : Int)) ∧ w'.cell? ⟨V, 1, none⟩ = some (.int .u8 ((Y k).toNat : Int)) ∧ w'.cell? ⟨V, 2, none⟩ = some (.int .u8 ((Z k).toNat : Int))) ∧ w'.cell? ⟨w5.heap.size, 0, none⟩ = some (.int .u8 ((Y k).toNat : Int))) ∧ w'.cell? ⟨w5.heap.size + 1, 0, none⟩ = some (.int .u8 ((X k).toNat : Int))) ∧ w'.cell? ⟨w5.heap.size + 1 + 1, 0, none⟩ = some (.int .u8 ((x3 X Y Z k).toNat : Int))) ∧ w'.cell? ⟨w5.heap.size + 1 + 1 + 1, 0, none⟩ = some (.int .u8 ((Z k).toNat : Int)))) (fun _ h => h.1) ⟨hHeld2, newc _ _ _ (by simp)⟩ (fun hHeld3 => ?_)
                clear hHeld2
                refine wpAnyH_take (i := 16) (oi := o16) (v := ?_) rfl (by kernel_rfl) (by kernel_rfl) (by kernel_rfl) (fun _ _ _ h => h) (Or.inl ⟨by rfl, ?_⟩) (by assumption) ?_
                rotate_left
                · (intro w hSw; have hcv := conv_at w _ (Z k) hSw.2; (try dsimp only [o16]); go_simp <;> with_reducible rfl)
                simp only [o16, Act.put, List.setIfInBounds_toArray, List.set_cons_zero, List.set_cons_succ]
                refine wpAnyH_take (i := 17) (oi := o17) (v := ?_) rfl (by kernel_rfl) (by kernel_rfl) (by kernel_rfl) (fun _ _ _ h => h) (Or.inl ⟨by rfl, ?_⟩) (by assumption) ?_
                rotate_left
                · (intro w hSw; (try dsimp only [o17] at hSw ⊢); go_simp <;> with_reducible rfl)
                simp only [o17, Act.put, List.setIfInBounds_toArray, List.set_cons_zero, List.set_cons_succ]
                refine wpAnyH_take (i := 32) (oi := o32) (v := ?_) rfl (by kernel_rfl) (by kernel_rfl) (by kernel_rfl) (fun _ _ _ h => h) (Or.inl ⟨by rfl, ?_⟩) (by assumption) ?_
                rotate_left
                · (intro w hSw; (try dsimp only [o32] at hSw ⊢); go_simp <;> with_reducible rfl)
                simp only [o32, Act.put, List.setIfInBounds_toArray, List.set_cons_zero, List.set_cons_succ]
                refine wpAnyH_take (i := 33) (oi := o33) (v := ?_) rfl (by kernel_rfl) (by kernel_rfl) (by kernel_rfl) (fun _ _ _ h => h) (Or.inl ⟨by rfl, ?_⟩) (by assumption) ?_
                rotate_left
                · (intro w hSw; (try dsimp only [o33] at hSw ⊢); go_simp <;> with_reducible rfl)
                simp only [o33, Act.put, List.setIfInBounds_toArray, List.set_cons_zero, List.set_cons_succ]
                have hHeld := hHeld3
                clear hHeld3
                refine wpAnyH_done (by kernel_rfl) ?_ _
                go_wp2_with fail
                go_roundw
                case rel => exact ⟨k + 1, by omega, rfl, rfl, rfl, rfl, by go_num, (((((hb5.alloc hb5.size _).alloc (by have := hb5.size; simp; omega) _).alloc (by have := hb5.size; simp; omega) _).alloc (by have := hb5.size; simp; omega) _).drew)⟩
                case measure => simp [intOf]; omega
              exact AllReadyH.nil
            exact AllReadyH.nil
          refine AllReadyH.cons rfl (fun K hK => ?_) ?_
          · go_simp
            refine hK.out _ _ ?_ (fun hHeld2 => ?_)
            · exact ⟨⟨kept _ hHeld.1.1, kept _ hHeld.1.2.1, kept _ hHeld.1.2.2⟩, kept _ hHeld.2⟩
            clear hK K
            refine wpAnyH_with (fun w' : World => (((w'.cell? ⟨V, 0, none⟩ = some (.int .u8 ((X k).toNat : Int)) ∧ w'.cell? ⟨V, 1, none⟩ = some (.int .u8 ((Y k).toNat : Int)) ∧ w'.cell? ⟨V, 2, none⟩ = some (.int .u8 ((Z k).toNat : Int))) ∧ w'.cell? ⟨w5.heap.size, 0, none⟩ = some (.int .u8 ((Y k).toNat : Int))) ∧ w'.cell? ⟨w5.heap.size + 1, 0, none⟩ = some (.int .u8 ((Z k).toNat : Int)))) (fun _ h => h.1) ⟨hHeld2, newc _ _ _ (by simp)⟩ (fun hHeld3 => ?_)
            clear hHeld2
            refine wpAnyH_take (i := 16) (oi := o16) (v := ?_) rfl (by kernel_rfl) (by kernel_rfl) (by kernel_rfl) (fun _ _ _ h => h) (Or.inl ⟨by rfl, ?_⟩) (by assumption) ?_
            rotate_left
            · (intro w hSw; have hcv := conv_at w _ (Z k) hSw.2; (try dsimp only [o16]); go_simp <;> with_reducible rfl)
            simp only [o16, Act.put, List.setIfInBounds_toArray, List.set_cons_zero, List.set_cons_succ]
            refine wpAnyH_take (i := 17) (oi := o17) (v := ?_) rfl (by kernel_rfl) (by kernel_rfl) (by kernel_rfl) (fun _ _ _ h => h) (Or.inl ⟨by rfl, ?_⟩) (by assumption) ?_
            rotate_left
            · (intro w hSw; (try dsimp only [o17] at hSw ⊢); go_simp <;> with_reducible rfl)
            simp only [o17, Act.put, List.setIfInBounds_toArray, List.set_cons_zero, List.set_cons_succ]
            have hHeld := hHeld3
            clear hHeld3
            refine wpAnyH_ready (rs := [3, 27]) (by kernel_rfl) (by simp) ?_
            refine AllReadyH.cons rfl (fun K hK => ?_) ?_
            · go_simp
              refine hK.out _ _ ?_ (fun hHeld2 => ?_)
              · exact ⟨⟨⟨kept _ hHeld.1.1.1, kept _ hHeld.1.1.2.1, kept _ hHeld.1.1.2.2⟩, kept _ hHeld.1.2⟩, kept _ hHeld.2⟩
              clear hK K
              refine wpAnyH_with (fun w' : World => ((((w'.cell? ⟨V, 0, none⟩ = some (.int .u8 ((X k).toNat : Int)) ∧ w'.cell? ⟨V, 1, none⟩ = some (.int .u8 ((Y k).toNat : Int)) ∧ w'.cell? ⟨V, 2, none⟩ = some (.int .u8 ((Z k).toNat : Int))) ∧ w'.cell? ⟨w5.heap.size, 0, none⟩ = some (.int .u8 ((Y k).toNat : Int))) ∧ w'.cell? ⟨w5.heap.size + 1, 0, none⟩ = some (.int .u8 ((Z k).toNat : Int))) ∧ w'.cell? ⟨w5.heap.size + 1 + 1, 0, none⟩ = some (.int .u8 ((X k).toNat : Int)))) (fun _ h => h.1) ⟨hHeld2, newc _ _ _ (by simp)⟩ (fun hHeld3 => ?_)
              clear hHeld2
              refine wpAnyH_take (i := 4) (oi := o4) (v := ?_) rfl (by kernel_rfl) (by kernel_rfl) (by kernel_rfl) (fun _ _ _ h => h) (Or.inl ⟨by rfl, ?_⟩) (by assumption) ?_
              rotate_left
              · (intro w hSw; have hcv := conv_at w _ (X k) hSw.2; (try dsimp only [o4]); go_simp <;> with_reducible rfl)
              simp only [o4, Act.put, List.setIfInBounds_toArray, List.set_cons_zero, List.set_cons_succ]
              refine wpAnyH_take (i := 5) (oi := o5) (v := ?_) rfl (by kernel_rfl) (by kernel_rfl) (by kernel_rfl) (fun _ _ _ h => h) (Or.inl ⟨by rfl, ?_⟩) (by assumption) ?_
              rotate_left
              · (intro w hSw; (try dsimp only [o5] at hSw ⊢); go_simp <;> with_reducible rfl)
              simp only [o5, Act.put, List.setIfInBounds_toArray, List.set_cons_zero, List.set_cons_succ]
              refine wpAnyH_take (i := 30) (oi := o30) (v := ?_) rfl (by kernel_rfl) (by kernel_rfl) (by kernel_rfl) (fun _ _ _ h => h) (Or.inl ⟨by rfl, ?_⟩) (by assumption) ?_
              rotate_left
              · (intro w hSw; (try dsimp only [o30] at hSw ⊢); go_simp <;> with_reducible rfl)
              simp only [o30, Act.put, List.setIfInBounds_toArray, List.set_cons_zero, List.set_cons_succ]
              refine wpAnyH_take (i := 31) (oi := o31) (v := ?_) rfl (by kernel_rfl) (by kernel_rfl) (by kernel_rfl) (fun _ _ _ h => h) (Or.inl ⟨by rfl, ?_⟩) (by assumption) ?_
              rotate_left
              · (intro w hSw; (try dsimp only [o31] at hSw ⊢); go_simp <;> with_reducible rfl)
              simp only [o31, Act.put, List.setIfInBounds_toArray, List.set_cons_zero, List.set_cons_succ]
              refine wpAnyH_take (i := 32) (oi := o32) (v := ?_) rfl (by kernel_rfl) (by kernel_rfl) (by kernel_rfl) (fun _ _ _ h => h) (Or.inl ⟨by rfl, ?_⟩) (by assumption) ?_
              rotate_left
              · (intro w hSw; (try dsimp only [o32] at hSw ⊢); go_simp <;> with_reducible rfl)
              simp only [o32, Act.put, List.setIfInBounds_toArray, List.set_cons_zero, List.set_cons_succ]
              have hHeld := hHeld3
              clear hHeld3
              refine wpAnyH_ready (rs := [27]) (by kernel_rfl) (by simp) ?_
              refine AllReadyH.cons rfl (fun K hK => ?_) ?_
              · go_simp
                refine hK.out _ _ ?_ (fun hHeld2 => ?_)
                · exact ⟨⟨⟨⟨kept _ hHeld.1.1.1.1, kept _ hHeld.1.1.1.2.1, kept _ hHeld.1.1.1.2.2⟩, kept _ hHeld.1.1.2⟩, kept _ hHeld.1.2⟩, kept _ hHeld.2⟩
                clear hK K
                refine wpAnyH_with (fun w' : World => (((((w'.cell? ⟨V, 0, none⟩ = some (.int .u8 ((X k).toNat : Int)) ∧ w'.cell? ⟨V, 1, none⟩ = some (.int .u8 ((Y k).toNat : Int)) ∧ w'.cell? ⟨V, 2, none⟩ = some (.int .u8 ((Z k).toNat : Int))) ∧ w'.cell? ⟨w5.heap.size, 0, none⟩ = some (.int .u8 ((Y k).toNat : Int))) ∧ w'.cell? ⟨w5.heap.size + 1, 0, none⟩ = some (.int .u8 ((Z k).toNat : Int))) ∧ w'.cell? ⟨w5.heap.size + 1 + 1, 0, none⟩ = some (.int .u8 ((X k).toNat : Int))) ∧ w'.cell? ⟨w5.heap.size + 1 + 1 + 1, 0, none⟩ = some (.int .u8 ((x3 X Y Z k).toNat : Int)))) (fun _ h => h.1) ⟨hHeld2, newc _ _ _ (by simp)⟩ (fun hHeld3 => ?_)
                clear hHeld2
                refine wpAnyH_take (i := 28) (oi := o28) (v := ?_) rfl (by kernel_rfl) (by kernel_rfl) (by kernel_rfl) (fun _ _ _ h => h) (Or.inl ⟨by rfl, ?_⟩) (by assumption) ?_
                rotate_left
                · (intro w hSw; have hcv := conv_at w _ (x3 X Y Z k) hSw.2; (try dsimp only [o28]); go_simp <;> with_reducible rfl)
                simp only [o28, Act.put, List.setIfInBounds_toArray, List.set_cons_zero, List.set_cons_succ]
                refine wpAnyH_take (i := 29) (oi := o29) (v := ?_) rfl (by kernel_rfl) (by kernel_rfl) (by kernel_rfl) (fun _ _ _ h => h) (Or.inl ⟨by rfl, ?_⟩) (by assumption) ?_
                rotate_left
                · (intro w hSw; (try dsimp only [o29] at hSw ⊢); go_simp <;> with_reducible rfl)
                simp only [o29, Act.put, List.setIfInBounds_toArray, List.set_cons_zero, List.set_cons_succ]
                refine wpAnyH_take (i := 33) (oi := o33) (v := ?_) rfl (by kernel_rfl) (by kernel_rfl) (by kernel_rfl) (fun _ _ _ h => h) (Or.inl ⟨by rfl, ?_⟩) (by assumption) ?_
                rotate_left
                · (intro w hSw; (try dsimp only [o33] at hSw ⊢); go_simp <;> with_reducible rfl)
                simp only [o33, Act.put, List.setIfInBounds_toArray, List.set_cons_zero, List.set_cons_succ]
                have hHeld := hHeld3
                clear hHeld3
                refine wpAnyH_done (by kernel_rfl) ?_ _
                go_wp2_with fail
                go_roundw
                case rel => exact ⟨k + 1, by omega, rfl, rfl, rfl, rfl, by go_num, (((((hb5.alloc hb5.size _).alloc (by have := hb5.size; simp; omega) _).alloc (by have := hb5.size; simp; omega) _).alloc (by have := hb5.size; simp; omega) _).drew)⟩
                case measure => simp [intOf]; omega
              exact AllReadyH.nil
            refine AllReadyH.cons rfl (fun K hK => ?_) ?_
            · go_simp
              refine hK.out _ _ ?_ (fun hHeld2 => ?_)
              · exact ⟨⟨⟨kept _ hHeld.1.1.1, kept _ hHeld.1.1.2.1, kept _ hHeld.1.1.2.2⟩, kept _ hHeld.1.2⟩, kept _ hHeld.2⟩
              clear hK K
              refine wpAnyH_with (fun w' : World => ((((w'.cell? ⟨V, 0, none⟩ = some (.int .u8 ((X k).toNat : Int)) ∧ w'.cell? ⟨V, 1, none⟩ = some (.int .u8 ((Y k).toNat : Int)) ∧ w'.cell? ⟨V, 2, none⟩ = some (.int .u8 ((Z k).toNat : Int))) ∧ w'.cell? ⟨w5.heap.size, 0, none⟩ = some (.int .u8 ((Y k).toNat : Int))) ∧ w'.cell? ⟨w5.heap.size + 1, 0, none⟩ = some (.int .u8 ((Z k).toNat : Int))) ∧ w'.cell? ⟨w5.heap.size + 1 + 1, 0, none⟩ = some (.int .u8 ((x3 X Y Z k).toNat : Int)))) (fun _ h => h.1) ⟨hHeld2, newc _ _ _ (by simp)⟩ (fun hHeld3 => ?_)
              clear hHeld2
              refine wpAnyH_take (i := 28) (oi := o28) (v := ?_) rfl (by kernel_rfl) (by kernel_rfl) (by kernel_rfl) (fun _ _ _ h => h) (Or.inl ⟨by rfl, ?_⟩) (by assumption) ?_
              rotate_left
              · (intro w hSw; have hcv := conv_at w _ (x3 X Y Z k) hSw.2; (try dsimp only [o28]); go_simp <;> with_reducible rfl)
              simp only [o28, Act.put, List.setIfInBounds_toArray, List.set_cons_zero, List.set_cons_succ]
              refine wpAnyH_take (i := 29) (oi := o29) (v := ?_) rfl (by kernel_rfl) (by kernel_rfl) (by kernel_rfl) (fun _ _ _ h => h) (Or.inl ⟨by rfl, ?_⟩) (by assumption) ?_
              rotate_left
              · (intro w hSw; (try dsimp only [o29] at hSw ⊢); go_simp <;> with_reducible rfl)
              simp only [o29, Act.put, List.setIfInBounds_toArray, List.set_cons_zero, List.set_cons_succ]
              have hHeld := hHeld3
              clear hHeld3
              refine wpAnyH_ready (rs := [3]) (by kernel_rfl) (by simp) ?_
              refine AllReadyH.cons rfl (fun K hK => ?_) ?_
              · go_simp
                refine hK.out _ _ ?_ (fun hHeld2 => ?_)
                · exact ⟨⟨⟨⟨kept _ hHeld.1.1.1.1, kept _ hHeld.1.1.1.2.1, kept _ hHeld.1.1.1.2.2⟩, kept _ hHeld.1.1.2⟩, kept _ hHeld.1.2⟩, kept _ hHeld.2⟩
                clear hK K
                refine wpAnyH_with (fun w' : World => (((((w'.cell? ⟨V, 0, none⟩ = some (.int .u8 ((X k).toNat : Int)) ∧ w'.cell? ⟨V, 1, none⟩ = some (.int .u8 ((Y k).toNat : Int)) ∧ w'.cell? ⟨V, 2, none⟩ = some (.int .u8 ((Z k).toNat : Int))) ∧ w'.cell? ⟨w5.heap.size, 0, none⟩ = some (.int .u8 ((Y k).toNat : Int))) ∧ w'.cell? ⟨w5.heap.size + 1, 0, none⟩ = some (.int .u8 ((Z k).toNat : Int))) ∧ w'.cell? ⟨w5.heap.size + 1 + 1, 0, none⟩ = some (.int .u8 ((x3 X Y Z k).toNat : Int))) ∧ w'.cell? ⟨w5.heap.size + 1 + 1 + 1, 0, none⟩ = some (.int .u8 ((X k).toNat : Int)))) (fun _ h => h.1) ⟨hHeld2, newc _ _ _ (by simp)⟩ (fun hHeld3 => ?_)
                clear hHeld2
                refine wpAnyH_take (i := 4) (oi := o4) (v := ?_) rfl (by kernel_rfl) (by kernel_rfl) (by kernel_rfl) (fun _ _ _ h => h) (Or.inl ⟨by rfl, ?_⟩) (by assumption) ?_
                rotate_left
                · (intro w hSw; have hcv := conv_at w _ (X k) hSw.2; (try dsimp only [o4]); go_simp <;> with_reducible rfl)
                simp only [o4, Act.put, List.setIfInBounds_toArray, List.set_cons_zero, List.set_cons_succ]
                refine wpAnyH_take (i := 5) (oi := o5) (v := ?_) rfl (by kernel_rfl) (by kernel_rfl) (by kernel_rfl) (fun _ _ _ h => h) (Or.inl ⟨by rfl, ?_⟩) (by assumption) ?_
                rotate_left
                · (intro w hSw; (try dsimp only [o5] at hSw ⊢); go_simp <;> with_reducible rfl)
                simp only [o5, Act.put, List.setIfInBounds_toArray, List.set_cons_zero, List.set_cons_succ]
                refine wpAnyH_take (i := 30) (oi := o30) (v := ?_) rfl (by kernel_rfl) (by kernel_rfl) (by kernel_rfl) (fun _ _ _ h => h) (Or.inl ⟨by rfl, ?_⟩) (by assumption) ?_
                rotate_left
                · (intro w hSw; (try dsimp only [o30] at hSw ⊢); go_simp <;> with_reducible rfl)
                simp only [o30, Act.put, List.setIfInBounds_toArray, List.set_cons_zero, List.set_cons_succ]
                refine wpAnyH_take (i := 31) (oi := o31) (v := ?_) rfl (by kernel_rfl) (by kernel_rfl) (by kernel_rfl) (fun _ _ _ h => h) (Or.inl ⟨by rfl, ?_⟩) (by assumption) ?_
                rotate_left
                · (intro w hSw; (try dsimp only [o31] at hSw ⊢); go_simp <;> with_reducible rfl)
                simp only [o31, Act.put, List.setIfInBounds_toArray, List.set_cons_zero, List.set_cons_succ]
                refine wpAnyH_take (i := 32) (oi := o32) (v := ?_) rfl (by kernel_rfl) (by kernel_rfl) (by kernel_rfl) (fun _ _ _ h => h) (Or.inl ⟨by rfl, ?_⟩) (by assumption) ?_
                rotate_left
                · (intro w hSw; (try dsimp only [o32] at hSw ⊢); go_simp <;> with_reducible rfl)
                simp only [o32, Act.put, List.setIfInBounds_toArray, List.set_cons_zero, List.set_cons_succ]
                refine wpAnyH_take (i := 33) (oi := o33) (v := ?_) rfl (by kernel_rfl) (by kernel_rfl) (by kernel_rfl) (fun _ _ _ h => h) (Or.inl ⟨by rfl, ?_⟩) (by assumption) ?_
                rotate_left
                · (intro w hSw; (try dsimp only [o33] at hSw ⊢); go_simp <;> with_reducible rfl)
                simp only [o33, Act.put, List.setIfInBounds_toArray, List.set_cons_zero, List.set_cons_succ]
                have hHeld := hHeld3
                clear hHeld3
                refine wpAnyH_done (by kernel_rfl) ?_ _
                go_wp2_with fail
                go_roundw
                case rel => exact ⟨k + 1, by omega, rfl, rfl, rfl, rfl, by go_num, (((((hb5.alloc hb5.size _).alloc (by have := hb5.size; simp; omega) _).alloc (by have := hb5.size; simp; omega) _).alloc (by have := hb5.size; simp; omega) _).drew)⟩
                case measure => simp [intOf]; omega
              exact AllReadyH.nil
            exact AllReadyH.nil
          refine AllReadyH.cons rfl (fun K hK => ?_) ?_
          · go_simp
            refine hK.out _ _ ?_ (fun hHeld2 => ?_)
            · exact ⟨⟨kept _ hHeld.1.1, kept _ hHeld.1.2.1, kept _ hHeld.1.2.2⟩, kept _ hHeld.2⟩
            clear hK K
            refine wpAnyH_with (fun w' : World => (((w'.cell? ⟨V, 0, none⟩ = some (.int .u8 ((X k).toNat : Int)) ∧ w'.cell? ⟨V, 1, none⟩ = some (.int .u8 ((Y k).toNat : Int)) ∧ w'.cell? ⟨V, 2, none⟩ = some (.int .u8 ((Z k).toNat : Int))) ∧ w'.cell? ⟨w5.heap.size, 0, none⟩ = some (.int .u8 ((Y k).toNat : Int))) ∧ w'.cell? ⟨w5.heap.size + 1, 0, none⟩ = some (.int .u8 ((x3 X Y Z k).toNat : Int)))) (fun _ h => h.1) ⟨hHeld2, newc _ _ _ (by simp)⟩ (fun hHeld3 => ?_)
            clear hHeld2
            refine wpAnyH_take (i := 28) (oi := o28) (v := ?_) rfl (by kernel_rfl) (by kernel_rfl) (by kernel_rfl) (fun _ _ _ h => h) (Or.inl ⟨by rfl, ?_⟩) (by assumption) ?_
            rotate_left
            · (intro w hSw; have hcv := conv_at w _ (x3 X Y Z k) hSw.2; (try dsimp only [o28]); go_simp <;> with_reducible rfl)
            simp only [o28, Act.put, List.setIfInBounds_toArray, List.set_cons_zero, List.set_cons_succ]
            refine wpAnyH_take (i := 29) (oi := o29) (v := ?_) rfl (by kernel_rfl) (by kernel_rfl) (by kernel_rfl) (fun _ _ _ h => h) (Or.inl ⟨by rfl, ?_⟩) (by assumption) ?_
            rotate_left
            · (intro w hSw; (try dsimp only [o29] at hSw ⊢); go_simp <;> with_reducible rfl)
            simp only [o29, Act.put, List.setIfInBounds_toArray, List.set_cons_zero, List.set_cons_succ]
            have hHeld := hHeld3
            clear hHeld3
            refine wpAnyH_ready (rs := [3, 15]) (by kernel_rfl) (by simp) ?_
            refine AllReadyH.cons rfl (fun K hK => ?_) ?_
            · go_simp
              refine hK.out _ _ ?_ (fun hHeld2 => ?_)
              · exact ⟨⟨⟨kept _ hHeld.1.1.1, kept _ hHeld.1.1.2.1, kept _ hHeld.1.1.2.2⟩, kept _ hHeld.1.2⟩, kept _ hHeld.2⟩
              clear hK K
              refine wpAnyH_with (fun w' : World => ((((w'.cell? ⟨V, 0, none⟩ = some (.int .u8 ((X k).toNat : Int)) ∧ w'.cell? ⟨V, 1, none⟩ = some (.int .u8 ((Y k).toNat : Int)) ∧ w'.cell? ⟨V, 2, none⟩ = some (.int .u8 ((Z k).toNat : Int))) ∧ w'.cell? ⟨w5.heap.size, 0, none⟩ = some (.int .u8 ((Y k).toNat : Int))) ∧ w'.cell? ⟨w5.heap.size + 1, 0, none⟩ = some (.int .u8 ((x3 X Y Z k).toNat : Int))) ∧ w'.cell? ⟨w5.heap.size + 1 + 1, 0, none⟩ = some (.int .u8 ((X k).toNat : Int)))) (fun _ h => h.1) ⟨hHeld2, newc _ _ _ (by simp)⟩ (fun hHeld3 => ?_)
              clear hHeld2
              refine wpAnyH_take (i := 4) (oi := o4) (v := ?_) rfl (by kernel_rfl) (by kernel_rfl) (by kernel_rfl) (fun _ _ _ h => h) (Or.inl ⟨by rfl, ?_⟩) (by assumption) ?_
              rotate_left
              · (intro w hSw; have hcv := conv_at w _ (X k) hSw.2; (try dsimp only [o4]); go_simp <;> with_reducible rfl)
              simp only [o4, Act.put, List.setIfInBounds_toArray, List.set_cons_zero, List.set_cons_succ]
              refine wpAnyH_take (i := 5) (oi := o5) (v := ?_) rfl (by kernel_rfl) (by kernel_rfl) (by kernel_rfl) (fun _ _ _ h => h) (Or.inl ⟨by rfl, ?_⟩) (by assumption) ?_
              rotate_left
              · (intro w hSw; (try dsimp only [o5] at hSw ⊢); go_simp <;> with_reducible rfl)
              simp only [o5, Act.put, List.setIfInBounds_toArray, List.set_cons_zero, List.set_cons_succ]
              refine wpAnyH_take (i := 30) (oi := o30) (v := ?_) rfl (by kernel_rfl) (by kernel_rfl) (by kernel_rfl) (fun _ _ _ h => h) (Or.inl ⟨by rfl, ?_⟩) (by assumption) ?_
              rotate_left
              · (intro w hSw; (try dsimp only [o30] at hSw ⊢); go_simp <;> with_reducible rfl)
              simp only [o30, Act.put, List.setIfInBounds_toArray, List.set_cons_zero, List.set_cons_succ]
              refine wpAnyH_take (i := 31) (oi := o31) (v := ?_) rfl (by kernel_rfl) (by kernel_rfl) (by kernel_rfl) (fun _ _ _ h => h) (Or.inl ⟨by rfl, ?_⟩) (by assumption) ?_
              rotate_left
              · (intro w hSw; (try dsimp only [o31] at hSw ⊢); go_simp <;> with_reducible rfl)
              simp only [o31, Act.put, List.setIfInBounds_toArray, List.set_cons_zero, List.set_cons_succ]
              have hHeld := hHeld3
              clear hHeld3
              refine wpAnyH_ready (rs := [15]) (by kernel_rfl) (by simp) ?_
              refine AllReadyH.cons rfl (fun K hK => ?_) ?_
              · go_simp
                refine hK.out _ _ ?_ (fun hHeld2 => ?_)
                · exact ⟨⟨⟨⟨kept _ hHeld.1.1.1.1, kept _ hHeld.1.1.1.2.1, kept _ hHeld.1.1.1.2.2⟩, kept _ hHeld.1.1.2⟩, kept _ hHeld.1.2⟩, kept _ hHeld.2⟩
                clear hK K
                refine wpAnyH_with (fun w' : World => (((((w'.cell? ⟨V, 0, none⟩ = some (.int .u8 ((X k).toNat : Int)) ∧ w'.cell? ⟨V, 1, none⟩ = some (.int .u8 ((Y k).toNat : Int)) ∧ w'.cell? ⟨V, 2, none⟩ = some (.int .u8 ((Z k).toNat : Int))) ∧ w'.cell? ⟨w5.heap.size, 0, none⟩ = some (.int .u8 ((Y k).toNat : Int))) ∧ w'.cell? ⟨w5.heap.size + 1, 0, none⟩ = some (.int .u8 ((x3 X Y Z k).toNat : Int))) ∧ w'.cell? ⟨w5.heap.size + 1 + 1, 0, none⟩ = some (.int .u8 ((X k).toNat : Int))) ∧ w'.cell? ⟨w5.heap.size + 1 + 1 + 1, 0, none⟩ = some (.int .u8 ((Z k).toNat : Int)))) (fun _ h => h.1) ⟨hHeld2, newc _ _ _ (by simp)⟩ (fun hHeld3 => ?_)
                clear hHeld2
                refine wpAnyH_take (i := 16) (oi := o16) (v := ?_) rfl (by kernel_rfl) (by kernel_rfl) (by kernel_rfl) (fun _ _ _ h => h) (Or.inl ⟨by rfl, ?_⟩) (by assumption) ?_
                rotate_left
                · (intro w hSw; have hcv := conv_at w _ (Z k) hSw.2; (try dsimp only [o16]); go_simp <;> with_reducible rfl)
                simp only [o16, Act.put, List.setIfInBounds_toArray, List.set_cons_zero, List.set_cons_succ]
                refine wpAnyH_take (i := 17) (oi := o17) (v := ?_) rfl (by kernel_rfl) (by kernel_rfl) (by kernel_rfl) (fun _ _ _ h => h) (Or.inl ⟨by rfl, ?_⟩) (by assumption) ?_
                rotate_left
                · (intro w hSw; (try dsimp only [o17] at hSw ⊢); go_simp <;> with_reducible rfl)
                simp only [o17, Act.put, List.setIfInBounds_toArray, List.set_cons_zero, List.set_cons_succ]
                refine wpAnyH_take (i := 32) (oi := o32) (v := ?_) rfl (by kernel_rfl) (by kernel_rfl) (by kernel_rfl) (fun _ _ _ h => h) (Or.inl ⟨by rfl, ?_⟩) (by assumption) ?_
                rotate_left
                · (intro w hSw; (try dsimp only [o32] at hSw ⊢); go_simp <;> with_reducible rfl)
                simp only [o32, Act.put, List.setIfInBounds_toArray, List.set_cons_zero, List.set_cons_succ]
                refine wpAnyH_take (i := 33) (oi := o33) (v := ?_) rfl (by kernel_rfl) (by kernel_rfl) (by kernel_rfl) (fun _ _ _ h => h) (Or.inl ⟨by rfl, ?_⟩) (by assumption) ?_
                rotate_left
                · (intro w hSw; (try dsimp only [o33] at hSw ⊢); go_simp <;> with_reducible rfl)
                simp only [o33, Act.put, List.setIfInBounds_toArray, List.set_cons_zero, List.set_cons_succ]
                have hHeld := hHeld3
                clear hHeld3
                refine wpAnyH_done (by kernel_rfl) ?_ _
                go_wp2_with fail
                go_roundw
                case rel => exact ⟨k + 1, by omega, rfl, rfl, rfl, rfl, by go_num, (((((hb5.alloc hb5.size _).alloc (by have := hb5.size; simp; omega) _).alloc (by have := hb5.size; simp; omega) _).alloc (by have := hb5.size; simp; omega) _).drew)⟩
                case measure => simp [intOf]; omega
              exact AllReadyH.nil
            refine AllReadyH.cons rfl (fun K hK => ?_) ?_
            · go_simp
              refine hK.out _ _ ?_ (fun hHeld2 => ?_)
              · exact ⟨⟨⟨kept _ hHeld.1.1.1, kept _ hHeld.1.1.2.1, kept _ hHeld.1.1.2.2⟩, kept _ hHeld.1.2⟩, kept _ hHeld.2⟩
              clear hK K
              refine wpAnyH_with (fun w' : World => ((((w'.cell? ⟨V, 0, none⟩ = some (.int .u8 ((X k).toNat : Int)) ∧ w'.cell? ⟨V, 1, none⟩ = some (.int .u8 ((Y k).toNat : Int)) ∧ w'.cell? ⟨V, 2, none⟩ = some (.int .u8 ((Z k).toNat : Int))) ∧ w'.cell? ⟨w5.heap.size, 0, none⟩ = some (.int .u8 ((Y k).toNat : Int))) ∧ w'.cell? ⟨w5.heap.size + 1, 0, none⟩ = some (.int .u8 ((x3 X Y Z k).toNat : Int))) ∧ w'.cell? ⟨w5.heap.size + 1 + 1, 0, none⟩ = some (.int .u8 ((Z k).toNat : Int)))) (fun _ h => h.1) ⟨hHeld2, newc _ _ _ (by simp)⟩ (fun hHeld3 => ?_)
              clear hHeld2
              refine wpAnyH_take (i := 16) (oi := o16) (v := ?_) rfl (by kernel_rfl) (by kernel_rfl) (by kernel_rfl) (fun _ _ _ h => h) (Or.inl ⟨by rfl, ?_⟩) (by assumption) ?_
              rotate_left
              · (intro w hSw; have hcv := conv_at w _ (Z k) hSw.2; (try dsimp only [o16]); go_simp <;> with_reducible rfl)
              simp only [o16, Act.put, List.setIfInBounds_toArray, List.set_cons_zero, List.set_cons_succ]
              refine wpAnyH_take (i := 17) (oi := o17) (v := ?_) rfl (by kernel_rfl) (by kernel_rfl) (by kernel_rfl) (fun _ _ _ h => h) (Or.inl ⟨by rfl, ?_⟩) (by assumption) ?_
              rotate_left
              · (intro w hSw; (try dsimp only [o17] at hSw ⊢); go_simp <;> with_reducible rfl)
              simp only [o17, Act.put, List.setIfInBounds_toArray, List.set_cons_zero, List.set_cons_succ]
              have hHeld := hHeld3
              clear hHeld3
              refine wpAnyH_ready (rs := [3]) (by kernel_rfl) (by simp) ?_
              refine AllReadyH.cons rfl (fun K hK => ?_) ?_
              · go_simp
                refine hK.out _ _ ?_ (fun hHeld2 => ?_)
                · exact ⟨⟨⟨⟨kept _ hHeld.1.1.1.1, kept _ hHeld.1.1.1.2.1, kept _ hHeld.1.1.1.2.2⟩, kept _ hHeld.1.1.2⟩, kept _ hHeld.1.2⟩, kept _ hHeld.2⟩
                clear hK K
                refine wpAnyH_with (fun w' : World => (((((w'.cell? ⟨V, 0, none⟩ = some (.int .u8 ((X k).toNat : Int)) ∧ w'.cell? ⟨V, 1, none⟩ = some (.int .u8 ((Y k).toNat : Int)) ∧ w'.cell? ⟨V, 2, none⟩ = some (.int .u8 ((Z k).toNat : Int))) ∧ w'.cell? ⟨w5.heap.size, 0, none⟩ = some (.int .u8 ((Y k).toNat : Int))) ∧ w'.cell? ⟨w5.heap.size + 1, 0, none⟩ = some (.int .u8 ((x3 X Y Z k).toNat : Int))) ∧ w'.cell? ⟨w5.heap.size + 1 + 1, 0, none⟩ = some (.int .u8 ((Z k).toNat : Int))) ∧ w'.cell? ⟨w5.heap.size + 1 + 1 + 1, 0, none⟩ = some (.int .u8 ((X k).toNat : Int)))) (fun _ h => h.1) ⟨hHeld2, newc _ _ _ (by simp)⟩ (fun hHeld3 => ?_)
                clear hHeld2
                refine wpAnyH_take (i := 4) (oi := o4) (v := ?_) rfl (by kernel_rfl) (by kernel_rfl) (by kernel_rfl) (fun _ _ _ h => h) (Or.inl ⟨by rfl, ?_⟩) (by assumption) ?_
                rotate_left
                · (intro w hSw; have hcv := conv_at w _ (X k) hSw.2; (try dsimp only [o4]); go_simp <;> with_reducible rfl)
                simp only [o4, Act.put, List.setIfInBounds_toArray, List.set_cons_zero, List.set_cons_succ]
                refine wpAnyH_take (i := 5) (oi := o5) (v := ?_) rfl (by kernel_rfl) (by kernel_rfl) (by kernel_rfl) (fun _ _ _ h => h) (Or.inl ⟨by rfl, ?_⟩) (by assumption) ?_
                rotate_left
                · (intro w hSw; (try dsimp only [o5] at hSw ⊢); go_simp <;> with_reducible rfl)
                simp only [o5, Act.put, List.setIfInBounds_toArray, List.set_cons_zero, List.set_cons_succ]
                refine wpAnyH_take (i := 30) (oi := o30) (v := ?_) rfl (by kernel_rfl) (by kernel_rfl) (by kernel_rfl) (fun _ _ _ h => h) (Or.inl ⟨by rfl, ?_⟩) (by assumption) ?_
                rotate_left
                · (intro w hSw; (try dsimp only [o30] at hSw ⊢); go_simp <;> with_reducible rfl)
                simp only [o30, Act.put, List.setIfInBounds_toArray, List.set_cons_zero, List.set_cons_succ]
                refine wpAnyH_take (i := 31) (oi := o31) (v := ?_) rfl (by kernel_rfl) (by kernel_rfl) (by kernel_rfl) (fun _ _ _ h => h) (Or.inl ⟨by rfl, ?_⟩) (by assumption) ?_
                rotate_left
                · (intro w hSw; (try dsimp only [o31] at hSw ⊢); go_simp <;> with_reducible rfl)
                simp only [o31, Act.put, List.setIfInBounds_toArray, List.set_cons_zero, List.set_cons_succ]
                refine wpAnyH_take (i := 32) (oi := o32) (v := ?_) rfl (by kernel_rfl) (by kernel_rfl) (by kernel_rfl) (fun _ _ _ h => h) (Or.inl ⟨by rfl, ?_⟩) (by assumption) ?_
                rotate_left
                · (intro w hSw; (try dsimp only [o32] at hSw ⊢); go_simp <;> with_reducible rfl)
                simp only [o32, Act.put, List.setIfInBounds_toArray, List.set_cons_zero, List.set_cons_succ]
                refine wpAnyH_take (i := 33) (oi := o33) (v := ?_) rfl (by kernel_rfl) (by kernel_rfl) (by kernel_rfl) (fun _ _ _ h => h) (Or.inl ⟨by rfl, ?_⟩) (by assumption) ?_
                rotate_left
                · (intro w hSw; (try dsimp only [o33] at hSw ⊢); go_simp <;> with_reducible rfl)
                simp only [o33, Act.put, List.setIfInBounds_toArray, List.set_cons_zero, List.set_cons_succ]
                have hHeld := hHeld3
                clear hHeld3
                refine wpAnyH_done (by kernel_rfl) ?_ _
                go_wp2_with fail
                go_roundw
                case rel => exact ⟨k + 1, by omega, rfl, rfl, rfl, rfl, by go_num, (((((hb5.alloc hb5.size _).alloc (by have := hb5.size; simp; omega) _).alloc (by have := hb5.size; simp; omega) _).alloc (by have := hb5.size; simp; omega) _).drew)⟩
                case measure => simp [intOf]; omega
              exact AllReadyH.nil
            exact AllReadyH.nil
          exact AllReadyH.nil
        refine AllReadyH.cons rfl (fun K hK => ?_) ?_
        · go_simp
          refine hK.out _ _ ?_ (fun hHeld2 => ?_)
          · exact ⟨kept _ hHeld.1, kept _ hHeld.2.1, kept _ hHeld.2.2⟩
          clear hK K
          refine wpAnyH_with (fun w' : World => ((w'.cell? ⟨V, 0, none⟩ = some (.int .u8 ((X k).toNat : Int)) ∧ w'.cell? ⟨V, 1, none⟩ = some (.int .u8 ((Y k).toNat : Int)) ∧ w'.cell? ⟨V, 2, none⟩ = some (.int .u8 ((Z k).toNat : Int))) ∧ w'.cell? ⟨w5.heap.size, 0, none⟩ = some (.int .u8 ((Z k).toNat : Int)))) (fun _ h => h.1) ⟨hHeld2, newc _ _ _ (by simp)⟩ (fun hHeld3 => ?_)
          clear hHeld2
          refine wpAnyH_take (i := 16) (oi := o16) (v := ?_) rfl (by kernel_rfl) (by kernel_rfl) (by kernel_rfl) (fun _ _ _ h => h) (Or.inl ⟨by rfl, ?_⟩) (by assumption) ?_
          rotate_left
          · (intro w hSw; have hcv := conv_at w _ (Z k) hSw.2; (try dsimp only [o16]); go_simp <;> with_reducible rfl)
          simp only [o16, Act.put, List.setIfInBounds_toArray, List.set_cons_zero, List.set_cons_succ]
          refine wpAnyH_take (i := 17) (oi := o17) (v := ?_) rfl (by kernel_rfl) (by kernel_rfl) (by kernel_rfl) (fun _ _ _ h => h) (Or.inl ⟨by rfl, ?_⟩) (by assumption) ?_
          rotate_left
          · (intro w hSw; (try dsimp only [o17] at hSw ⊢); go_simp <;> with_reducible rfl)
          simp only [o17, Act.put, List.setIfInBounds_toArray, List.set_cons_zero, List.set_cons_succ]
          have hHeld := hHeld3
          clear hHeld3
          refine wpAnyH_ready (rs := [3, 9, 27]) (by kernel_rfl) (by simp) ?_
          refine AllReadyH.cons rfl (fun K hK => ?_) ?_
          · go_simp
            refine hK.out _ _ ?_ (fun hHeld2 => ?_)
            · exact ⟨⟨kept _ hHeld.1.1, kept _ hHeld.1.2.1, kept _ hHeld.1.2.2⟩, kept _ hHeld.2⟩
            clear hK K
            refine wpAnyH_with (fun w' : World => (((w'.cell? ⟨V, 0, none⟩ = some (.int .u8 ((X k).toNat : Int)) ∧ w'.cell? ⟨V, 1, none⟩ = some (.int .u8 ((Y k).toNat : Int)) ∧ w'.cell? ⟨V, 2, none⟩ = some (.int .u8 ((Z k).toNat : Int))) ∧ w'.cell? ⟨w5.heap.size, 0, none⟩ = some (.int .u8 ((Z k).toNat : Int))) ∧ w'.cell? ⟨w5.heap.size + 1, 0, none⟩ = some (.int .u8 ((X k).toNat : Int)))) (fun _ h => h.1) ⟨hHeld2, newc _ _ _ (by simp)⟩ (fun hHeld3 => ?_)
            clear hHeld2
            refine wpAnyH_take (i := 4) (oi := o4) (v := ?_) rfl (by kernel_rfl) (by kernel_rfl) (by kernel_rfl) (fun _ _ _ h => h) (Or.inl ⟨by rfl, ?_⟩) (by assumption) ?_
            rotate_left
            · (intro w hSw; have hcv := conv_at w _ (X k) hSw.2; (try dsimp only [o4]); go_simp <;> with_reducible rfl)
            simp only [o4, Act.put, List.setIfInBounds_toArray, List.set_cons_zero, List.set_cons_succ]
            refine wpAnyH_take (i := 5) (oi := o5) (v := ?_) rfl (by kernel_rfl) (by kernel_rfl) (by kernel_rfl) (fun _ _ _ h => h) (Or.inl ⟨by rfl, ?_⟩) (by assumption) ?_
            rotate_left
            · (intro w hSw; (try dsimp only [o5] at hSw ⊢); go_simp <;> with_reducible rfl)
            simp only [o5, Act.put, List.setIfInBounds_toArray, List.set_cons_zero, List.set_cons_succ]
            refine wpAnyH_take (i := 30) (oi := o30) (v := ?_) rfl (by kernel_rfl) (by kernel_rfl) (by kernel_rfl) (fun _ _ _ h => h) (Or.inl ⟨by rfl, ?_⟩) (by assumption) ?_
            rotate_left
            · (intro w hSw; (try dsimp only [o30] at hSw ⊢); go_simp <;> with_reducible rfl)
            simp only [o30, Act.put, List.setIfInBounds_toArray, List.set_cons_zero, List.set_cons_succ]
            have hHeld := hHeld3
            clear hHeld3
            refine wpAnyH_ready (rs := [9, 27]) (by kernel_rfl) (by simp) ?_
            refine AllReadyH.cons rfl (fun K hK => ?_) ?_
            · go_simp
              refine hK.out _ _ ?_ (fun hHeld2 => ?_)
              · exact ⟨⟨⟨kept _ hHeld.1.1.1, kept _ hHeld.1.1.2.1, kept _ hHeld.1.1.2.2⟩, kept _ hHeld.1.2⟩, kept _ hHeld.2⟩
              clear hK K
              refine wpAnyH_with (fun w' : World => ((((w'.cell? ⟨V, 0, none⟩ = some (.int .u8 ((X k).toNat : Int)) ∧ w'.cell? ⟨V, 1, none⟩ = some (.int .u8 ((Y k).toNat : Int)) ∧ w'.cell? ⟨V, 2, none⟩ = some (.int .u8 ((Z k).toNat : Int))) ∧ w'.cell? ⟨w5.heap.size, 0, none⟩ = some (.int .u8 ((Z k).toNat : Int))) ∧ w'.cell? ⟨w5.heap.size + 1, 0, none⟩ = some (.int .u8 ((X k).toNat : Int))) ∧ w'.cell? ⟨w5.heap.size + 1 + 1, 0, none⟩ = some (.int .u8 ((Y k).toNat : Int)))) (fun _ h => h.1) ⟨hHeld2, newc _ _ _ (by simp)⟩ (fun hHeld3 => ?_)
              clear hHeld2
              refine wpAnyH_take (i := 10) (oi := o10) (v := ?_) rfl (by kernel_rfl) (by kernel_rfl) (by kernel_rfl) (fun _ _ _ h => h) (Or.inl ⟨by rfl, ?_⟩) (by assumption) ?_
              rotate_left
              · (intro w hSw; have hcv := conv_at w _ (Y k) hSw.2; (try dsimp only [o10]); go_simp <;> with_reducible rfl)
              simp only [o10, Act.put, List.setIfInBounds_toArray, List.set_cons_zero, List.set_cons_succ]
              refine wpAnyH_take (i := 11) (oi := o11) (v := ?_) rfl (by kernel_rfl) (by kernel_rfl) (by kernel_rfl) (fun _ _ _ h => h) (Or.inl ⟨by rfl, ?_⟩) (by assumption) ?_
              rotate_left
              · (intro w hSw; (try dsimp only [o11] at hSw ⊢); go_simp <;> with_reducible rfl)
              simp only [o11, Act.put, List.setIfInBounds_toArray, List.set_cons_zero, List.set_cons_succ]
              refine wpAnyH_take (i := 31) (oi := o31) (v := ?_) rfl (by kernel_rfl) (by kernel_rfl) (by kernel_rfl) (fun _ _ _ h => h) (Or.inl ⟨by rfl, ?_⟩) (by assumption) ?_
              rotate_left
              · (intro w hSw; (try dsimp only [o31] at hSw ⊢); go_simp <;> with_reducible rfl)
              simp only [o31, Act.put, List.setIfInBounds_toArray, List.set_cons_zero, List.set_cons_succ]
              refine wpAnyH_take (i := 32) (oi := o32) (v := ?_) rfl (by kernel_rfl) (by kernel_rfl) (by kernel_rfl) (fun _ _ _ h => h) (Or.inl ⟨by rfl, ?_⟩) (by assumption) ?_
              rotate_left
              · (intro w hSw; (try dsimp only [o32] at hSw ⊢); go_simp <;> with_reducible rfl)
              simp only [o32, Act.put, List.setIfInBounds_toArray, List.set_cons_zero, List.set_cons_succ]
              have hHeld := hHeld3
              clear hHeld3
              refine wpAnyH_ready (rs := [27]) (by kernel_rfl) (by simp) ?_
              refine AllReadyH.cons rfl (fun K hK => ?_) ?_
              · go_simp
                refine hK.out _ _ ?_ (fun hHeld2 => ?_)
                · exact ⟨⟨⟨⟨kept _ hHeld.1.1.1.1, kept _ hHeld.1.1.1.2.1, kept _ hHeld.1.1.1.2.2⟩, kept _ hHeld.1.1.2⟩, kept _ hHeld.1.2⟩, kept _ hHeld.2⟩
                clear hK K
                refine wpAnyH_with (fun w' : World => (((((w'.cell? ⟨V, 0, none⟩ = some (.int .u8 ((X k).toNat : Int)) ∧ w'.cell? ⟨V, 1, none⟩ = some (.int .u8 ((Y k).toNat : Int)) ∧ w'.cell? ⟨V, 2, none⟩ = some (.int .u8 ((Z k).toNat : Int))) ∧ w'.cell? ⟨w5.heap.size, 0, none⟩ = some (.int .u8 ((Z k).toNat : Int))) ∧ w'.cell? ⟨w5.heap.size + 1, 0, none⟩ = some (.int .u8 ((X k).toNat : Int))) ∧ w'.cell? ⟨w5.heap.size + 1 + 1, 0, none⟩ = some (.int .u8 ((Y k).toNat : Int))) ∧ w'.cell? ⟨w5.heap.size + 1 + 1 + 1, 0, none⟩ = some (.int .u8 ((x3 X Y Z k).toNat : Int)))) (fun _ h => h.1) ⟨hHeld2, newc _ _ _ (by simp)⟩ (fun hHeld3 => ?_)
                clear hHeld2
                refine wpAnyH_take (i := 28) (oi := o28) (v := ?_) rfl (by kernel_rfl) (by kernel_rfl) (by kernel_rfl) (fun _ _ _ h => h) (Or.inl ⟨by rfl, ?_⟩) (by assumption) ?_
                rotate_left
                · (intro w hSw; have hcv := conv_at w _ (x3 X Y Z k) hSw.2; (try dsimp only [o28]); go_simp <;> with_reducible rfl)
                simp only [o28, Act.put, List.setIfInBounds_toArray, List.set_cons_zero, List.set_cons_succ]
                refine wpAnyH_take (i := 29) (oi := o29) (v := ?_) rfl (by kernel_rfl) (by kernel_rfl) (by kernel_rfl) (fun _ _ _ h => h) (Or.inl ⟨by rfl, ?_⟩) (by assumption) ?_
                rotate_left
                · (intro w hSw; (try dsimp only [o29] at hSw ⊢); go_simp <;> with_reducible rfl)
                simp only [o29, Act.put, List.setIfInBounds_toArray, List.set_cons_zero, List.set_cons_succ]
                refine wpAnyH_take (i := 33) (oi := o33) (v := ?_) rfl (by kernel_rfl) (by kernel_rfl) (by kernel_rfl) (fun _ _ _ h => h) (Or.inl ⟨by rfl, ?_⟩) (by assumption) ?_
                rotate_left
                · (intro w hSw; (try dsimp only [o33] at hSw ⊢); go_simp <;> with_reducible rfl)
                simp only [o33, Act.put, List.setIfInBounds_toArray, List.set_cons_zero, List.set_cons_succ]
                have hHeld := hHeld3
                clear hHeld3
                refine wpAnyH_done (by kernel_rfl) ?_ _
                go_wp2_with fail
                go_roundw
                case rel => exact ⟨k + 1, by omega, rfl, rfl, rfl, rfl, by go_num, (((((hb5.alloc hb5.size _).alloc (by have := hb5.size; simp; omega) _).alloc (by have := hb5.size; simp; omega) _).alloc (by have := hb5.size; simp; omega) _).drew)⟩
                case measure => simp [intOf]; omega
              exact AllReadyH.nil
            refine AllReadyH.cons rfl (fun K hK => ?_) ?_
            · go_simp
              refine hK.out _ _ ?_ (fun hHeld2 => ?_)
              · exact ⟨⟨⟨kept _ hHeld.1.1.1, kept _ hHeld.1.1.2.1, kept _ hHeld.1.1.2.2⟩, kept _ hHeld.1.2⟩, kept _ hHeld.2⟩
              clear hK K
              refine wpAnyH_with (fun w' : World => ((((w'.cell? ⟨V, 0, none⟩ = some (.int .u8 ((X k).toNat : Int)) ∧ w'.cell? ⟨V, 1, none⟩ = some (.int .u8 ((Y k).toNat : Int)) ∧ w'.cell? ⟨V, 2, none⟩ = some (.int .u8 ((Z k).toNat : Int))) ∧ w'.cell? ⟨w5.heap.size, 0, none⟩ = some (.int .u8 ((Z k).toNat : Int))) ∧ w'.cell? ⟨w5.heap.size + 1, 0, none⟩ = some (.int .u8 ((X k).toNat : Int))) ∧ w'.cell? ⟨w5.heap.size + 1 + 1, 0, none⟩ = some (.int .u8 ((x3 X Y Z k).toNat : Int)))) (fun _ h => h.1) ⟨hHeld2, newc _ _ _ (by simp)⟩ (fun hHeld3 => ?_)
              clear hHeld2
              refine wpAnyH_take (i := 28) (oi := o28) (v := ?_) rfl (by kernel_rfl) (by kernel_rfl) (by kernel_rfl) (fun _ _ _ h => h) (Or.inl ⟨by rfl, ?_⟩) (by assumption) ?_
              rotate_left
              · (intro w hSw; have hcv := conv_at w _ (x3 X Y Z k) hSw.2; (try dsimp only [o28]); go_simp <;> with_reducible rfl)
              simp only [o28, Act.put, List.setIfInBounds_toArray, List.set_cons_zero, List.set_cons_succ]
              refine wpAnyH_take (i := 29) (oi := o29) (v := ?_) rfl (by kernel_rfl) (by kernel_rfl) (by kernel_rfl) (fun _ _ _ h => h) (Or.inl ⟨by rfl, ?_⟩) (by assumption) ?_
              rotate_left
              · (intro w hSw; (try dsimp only [o29] at hSw ⊢); go_simp <;> with_reducible rfl)
              simp only [o29, Act.put, List.setIfInBounds_toArray, List.set_cons_zero, List.set_cons_succ]
              have hHeld := hHeld3
              clear hHeld3
              refine wpAnyH_ready (rs := [9]) (by kernel_rfl) (by simp) ?_
              refine AllReadyH.cons rfl (fun K hK => ?_) ?_
              · go_simp
                refine hK.out _ _ ?_ (fun hHeld2 => ?_)
                · exact ⟨⟨⟨⟨kept _ hHeld.1.1.1.1, kept _ hHeld.1.1.1.2.1, kept _ hHeld.1.1.1.2.2⟩, kept _ hHeld.1.1.2⟩, kept _ hHeld.1.2⟩, kept _ hHeld.2⟩
                clear hK K
                refine wpAnyH_with (fun w' : World => (((((w'.cell? ⟨V, 0, none⟩ = some (.int .u8 ((X k).toNat : Int)) ∧ w'.cell? ⟨V, 1, none⟩ = some (.int .u8 ((Y k).toNat : Int)) ∧ w'.cell? ⟨V, 2, none⟩ = some (.int .u8 ((Z k).toNat : Int))) ∧ w'.cell? ⟨w5.heap.size, 0, none⟩ = some (.int .u8 ((Z k).toNat : Int))) ∧ w'.cell? ⟨w5.heap.size + 1, 0, none⟩ = some (.int .u8 ((X k).toNat : Int))) ∧ w'.cell? ⟨w5.heap.size + 1 + 1, 0, none⟩ = some (.int .u8 ((x3 X Y Z k).toNat : Int))) ∧ w'.cell? ⟨w5.heap.size + 1 + 1 + 1, 0, none⟩ = some (.int .u8 ((Y k).toNat : Int)))) (fun _ h => h.1) ⟨hHeld2, newc _ _ _ (by simp)⟩ (fun hHeld3 => ?_)
                clear hHeld2
                refine wpAnyH_take (i := 10) (oi := o10) (v := ?_) rfl (by kernel_rfl) (by kernel_rfl) (by kernel_rfl) (fun _ _ _ h => h) (Or.inl ⟨by rfl, ?_⟩) (by assumption) ?_
                rotate_left
                · (intro w hSw; have hcv := conv_at w _ (Y k) hSw.2; (try dsimp only [o10]); go_simp <;> with_reducible rfl)
                simp only [o10, Act.put, List.setIfInBounds_toArray, List.set_cons_zero, List.set_cons_succ]
                refine wpAnyH_take (i := 11) (oi := o11) (v := ?_) rfl (by kernel_rfl) (by kernel_rfl) (by kernel_rfl) (fun _ _ _ h => h) (Or.inl ⟨by rfl, ?_⟩) (by assumption) ?_
                rotate_left
                · (intro w hSw; (try dsimp only [o11] at hSw ⊢); go_simp <;> with_reducible rfl)
                simp only [o11, Act.put, List.setIfInBounds_toArray, List.set_cons_zero, List.set_cons_succ]
                refine wpAnyH_take (i := 31) (oi := o31) (v := ?_) rfl (by kernel_rfl) (by kernel_rfl) (by kernel_rfl) (fun _ _ _ h => h) (Or.inl ⟨by rfl, ?_⟩) (by assumption) ?_
                rotate_left
                · (intro w hSw; (try dsimp only [o31] at hSw ⊢); go_simp <;> with_reducible rfl)
                simp only [o31, Act.put, List.setIfInBounds_toArray, List.set_cons_zero, List.set_cons_succ]
                refine wpAnyH_take (i := 32) (oi := o32) (v := ?_) rfl (by kernel_rfl) (by kernel_rfl) (by kernel_rfl) (fun _ _ _ h => h) (Or.inl ⟨by rfl, ?_⟩) (by assumption) ?_
                rotate_left
                · (intro w hSw; (try dsimp only [o32] at hSw ⊢); go_simp <;> with_reducible rfl)
                simp only [o32, Act.put, List.setIfInBounds_toArray, List.set_cons_zero, List.set_cons_succ]
                refine wpAnyH_take (i := 33) (oi := o33) (v := ?_) rfl (by kernel_rfl) (by kernel_rfl) (by kernel_rfl) (fun _ _ _ h => h) (Or.inl ⟨by rfl, ?_⟩) (by assumption) ?_
                rotate_left
                · (intro w hSw; (try dsimp only [o33] at hSw ⊢); go_simp <;> with_reducible rfl)
                simp only [o33, Act.put, List.setIfInBounds_toArray, List.set_cons_zero, List.set_cons_succ]
                have hHeld := hHeld3
                clear hHeld3
                refine wpAnyH_done (by kernel_rfl) ?_ _
                go_wp2_with fail
                go_roundw
                case rel => exact ⟨k + 1, by omega, rfl, rfl, rfl, rfl, by go_num, (((((hb5.alloc hb5.size _).alloc (by have := hb5.size; simp; omega) _).alloc (by have := hb5.size; simp; omega) _).alloc (by have := hb5.size; simp; omega) _).drew)⟩
                case measure => simp [intOf]; omega
              exact AllReadyH.nil
            exact AllReadyH.nil
          refine AllReadyH.cons rfl (fun K hK => ?_) ?_
          · go_simp
            refine hK.out _ _ ?_ (fun hHeld2 => ?_)
            · exact ⟨⟨kept _ hHeld.1.1, kept _ hHeld.1.2.1, kept _ hHeld.1.2.2⟩, kept _ hHeld.2⟩
            clear hK K
            refine wpAnyH_with (fun w' : World => (((w'.cell? ⟨V, 0, none⟩ = some (.int .u8 ((X k).toNat : Int)) ∧ w'.cell? ⟨V, 1, none⟩ = some (.int .u8 ((Y k).toNat : Int)) ∧ w'.cell? ⟨V, 2, none⟩ = some (.int .u8 ((Z k).toNat : Int))) ∧ w'.cell? ⟨w5.heap.size, 0, none⟩ = some (.int .u8 ((Z k).toNat : Int))) ∧ w'.cell? ⟨w5.heap.size + 1, 0, none⟩ = some (.int .u8 ((Y k).toNat : Int)))) (fun _ h => h.1) ⟨hHeld2, newc _ _ _ (by simp)⟩ (fun hHeld3 => ?_)
            clear hHeld2
            refine wpAnyH_take (i := 10) (oi := o10) (v := ?_) rfl (by kernel_rfl) (by kernel_rfl) (by kernel_rfl) (fun _ _ _ h => h) (Or.inl ⟨by rfl, ?_⟩) (by assumption) ?_
            rotate_left
            · (intro w hSw; have hcv := conv_at w _ (Y k) hSw.2; (try dsimp only [o10]); go_simp <;> with_reducible rfl)
            simp only [o10, Act.put, List.setIfInBounds_toArray, List.set_cons_zero, List.set_cons_succ]
            refine wpAnyH_take (i := 11) (oi := o11) (v := ?_) rfl (by kernel_rfl) (by kernel_rfl) (by kernel_rfl) (fun _ _ _ h => h) (Or.inl ⟨by rfl, ?_⟩) (by assumption) ?_
            rotate_left
            · (intro w hSw; (try dsimp only [o11] at hSw ⊢); go_simp <;> with_reducible rfl)
            simp only [o11, Act.put, List.setIfInBounds_toArray, List.set_cons_zero, List.set_cons_succ]
            have hHeld := hHeld3
            clear hHeld3
            refine wpAnyH_ready (rs := [3, 27]) (by kernel_rfl) (by simp) ?_
            refine AllReadyH.cons rfl (fun K hK => ?_) ?_
            · go_simp
              refine hK.out _ _ ?_ (fun hHeld2 => ?_)
              · exact ⟨⟨⟨kept _ hHeld.1.1.1, kept _ hHeld.1.1.2.1, kept _ hHeld.1.1.2.2⟩, kept _ hHeld.1.2⟩, kept _ hHeld.2⟩
              clear hK K
              refine wpAnyH_with (fun w' : World => ((((w'.cell? ⟨V, 0, none⟩ = some (.int .u8 ((X k).toNat : Int)) ∧ w'.cell? ⟨V, 1, none⟩ = some (.int .u8 ((Y k).toNat : Int)) ∧ w'.cell? ⟨V, 2, none⟩ = some (.int .u8 ((Z k).toNat : Int))) ∧ w'.cell? ⟨w5.heap.size, 0, none⟩ = some (.int .u8 ((Z k).toNat : Int))) ∧ w'.cell? ⟨w5.heap.size + 1, 0, none⟩ = some (.int .u8 ((Y k).toNat : Int))) ∧ w'.cell? ⟨w5.heap.size + 1 + 1, 0, none⟩ = some (.int .u8 ((X k).toNat : Int)))) (fun _ h => h.1) ⟨hHeld2, newc _ _ _ (by simp)⟩ (fun hHeld3 => ?_)
              clear hHeld2
              refine wpAnyH_take (i := 4) (oi := o4) (v := ?_) rfl (by kernel_rfl) (by kernel_rfl) (by kernel_rfl) (fun _ _ _ h => h) (Or.inl ⟨by rfl, ?_⟩) (by assumption) ?_
              rotate_left
              · (intro w hSw; have hcv := conv_at w _ (X k) hSw.2; (try dsimp only [o4]); go_simp <;> with_reducible rfl)
              simp only [o4, Act.put, List.setIfInBounds_toArray, List.set_cons_zero, List.set_cons_succ]
              refine wpAnyH_take (i := 5) (oi := o5) (v := ?_) rfl (by kernel_rfl) (by kernel_rfl) (by kernel_rfl) (fun _ _ _ h => h) (Or.inl ⟨by rfl, ?_⟩) (by assumption) ?_
              rotate_left
              · (intro w hSw; (try dsimp only [o5] at hSw ⊢); go_simp <;> with_reducible rfl)
              simp only [o5, Act.put, List.setIfInBounds_toArray, List.set_cons_zero, List.set_cons_succ]
              refine wpAnyH_take (i := 30) (oi := o30) (v := ?_) rfl (by kernel_rfl) (by kernel_rfl) (by kernel_rfl) (fun _ _ _ h => h) (Or.inl ⟨by rfl, ?_⟩) (by assumption) ?_
              rotate_left
              · (intro w hSw; (try dsimp only [o30] at hSw ⊢); go_simp <;> with_reducible rfl)
              simp only [o30, Act.put, List.setIfInBounds_toArray, List.set_cons_zero, List.set_cons_succ]
              refine wpAnyH_take (i := 31) (oi := o31) (v := ?_) rfl (by kernel_rfl) (by kernel_rfl) (by kernel_rfl) (fun _ _ _ h => h) (Or.inl ⟨by rfl, ?_⟩) (by assumption) ?_
              rotate_left
              · (intro w hSw; (try dsimp only [o31] at hSw ⊢); go_simp <;> with_reducible rfl)
              simp only [o31, Act.put, List.setIfInBounds_toArray, List.set_cons_zero, List.set_cons_succ]
              refine wpAnyH_take (i := 32) (oi := o32) (v := ?_) rfl (by kernel_rfl) (by kernel_rfl) (by kernel_rfl) (fun _ _ _ h => h) (Or.inl ⟨by rfl, ?_⟩) (by assumption) ?_
              rotate_left
              · (intro w hSw; (try dsimp only [o32] at hSw ⊢); go_simp <;> with_reducible rfl)
              simp only [o32, Act.put, List.setIfInBounds_toArray, List.set_cons_zero, List.set_cons_succ]
              have hHeld := hHeld3
              clear hHeld3
              refine wpAnyH_ready (rs := [27]) (by kernel_rfl) (by simp) ?_
              refine AllReadyH.cons rfl (fun K hK => ?_) ?_
              · go_simp
                refine hK.out _ _ ?_ (fun hHeld2 => ?_)
                · exact ⟨⟨⟨⟨kept _ hHeld.1.1.1.1, kept _ hHeld.1.1.1.2.1, kept _ hHeld.1.1.1.2.2⟩, kept _ hHeld.1.1.2⟩, kept _ hHeld.1.2⟩, kept _ hHeld.2⟩
                clear hK K
                refine wpAnyH_with (fun w' : World => (((((w'.cell? ⟨V, 0, none⟩ = some (.int .u8 ((X k).toNat : Int)) ∧ w'.cell? ⟨V, 1, none⟩ = some (.int .u8 ((Y k).toNat : Int)) ∧ w'.cell? ⟨V, 2, none⟩ = some (.int .u8 ((Z k).toNat : Int))) ∧ w'.cell? ⟨w5.heap.size, 0, none⟩ = some (.int .u8 ((Z k).toNat : Int))) ∧ w'.cell? ⟨w5.heap.size + 1, 0, none⟩ = some (.int .u8 ((Y k).toNat : Int))) ∧ w'.cell? ⟨w5.heap.size + 1 + 1, 0, none⟩ = some (.int .u8 ((X k).toNat : Int))) ∧ w'.cell? ⟨w5.heap.size + 1 + 1 + 1, 0, none⟩ = some (.int .u8 ((x3 X Y Z k).toNat : Int)))) (fun _ h => h.1) ⟨hHeld2, newc _ _ _ (by simp)⟩ (fun hHeld3 => ?_)
                clear hHeld2
                refine wpAnyH_take (i := 28) (oi := o28) (v := ?_) rfl (by kernel_rfl) (by kernel_rfl) (by kernel_rfl) (fun _ _ _ h => h) (Or.inl ⟨by rfl, ?_⟩) (by assumption) ?_
                rotate_left
                · (intro w hSw; have hcv := conv_at w _ (x3 X Y Z k) hSw.2; (try dsimp only [o28]); go_simp <;> with_reducible rfl)
                simp only [o28, Act.put, List.setIfInBounds_toArray, List.set_cons_zero, List.set_cons_succ]
                refine wpAnyH_take (i := 29) (oi := o29) (v := ?_) rfl (by kernel_rfl) (by kernel_rfl) (by kernel_rfl) (fun _ _ _ h => h) (Or.inl ⟨by rfl, ?_⟩) (by assumption) ?_
                rotate_left
                · (intro w hSw; (try dsimp only [o29] at hSw ⊢); go_simp <;> with_reducible rfl)
                simp only [o29, Act.put, List.setIfInBounds_toArray, List.set_cons_zero, List.set_cons_succ]
                refine wpAnyH_take (i := 33) (oi := o33) (v := ?_) rfl (by kernel_rfl) (by kernel_rfl) (by kernel_rfl) (fun _ _ _ h => h) (Or.inl ⟨by rfl, ?_⟩) (by assumption) ?_
                rotate_left
                · (intro w hSw; (try dsimp only [o33] at hSw ⊢); go_simp <;> with_reducible rfl)
                simp only [o33, Act.put, List.setIfInBounds_toArray, List.set_cons_zero, List.set_cons_succ]
                have hHeld := hHeld3
                clear hHeld3
                refine wpAnyH_done (by kernel_rfl) ?_ _
                go_wp2_with fail
                go_roundw
                case rel => exact ⟨k + 1, by omega, rfl, rfl, rfl, rfl, by go_num, (((((hb5.alloc hb5.size _).alloc (by have := hb5.size; simp; omega) _).alloc (by have := hb5.size; simp; omega) _).alloc (by have := hb5.size; simp; omega) _).drew)⟩
                case measure => simp [intOf]; omega
              exact AllReadyH.nil
            refine AllReadyH.cons rfl (fun K hK => ?_) ?_
            · go_simp
              refine hK.out _ _ ?_ (fun hHeld2 => ?_)
              · exact ⟨⟨⟨kept _ hHeld.1.1.1, kept _ hHeld.1.1.2.1, kept _ hHeld.1.1.2.2⟩, kept _ hHeld.1.2⟩, kept _ hHeld.2⟩
              clear hK K
              refine wpAnyH_with (fun w' : World => ((((w'.cell? ⟨V, 0, none⟩ = some (.int .u8 ((X k).toNat : Int)) ∧ w'.cell? ⟨V, 1, none⟩ = some (.int .u8 ((Y k).toNat : Int)) ∧ w'.cell? ⟨V, 2, none⟩ = some (.int .u8 ((Z k).toNat : Int))) ∧ w'.cell? ⟨w5.heap.size, 0, none⟩ = some (.int .u8 ((Z k).toNat : Int))) ∧ w'.cell? ⟨w5.heap.size + 1, 0, none⟩ = some (.int .u8 ((Y k).toNat : Int))) ∧ w'.cell? ⟨w5.heap.size + 1 + 1, 0, none⟩ = some (.int .u8 ((x3 X Y Z k).toNat : Int)))) (fun _ h => h.1) ⟨hHeld2, newc _ _ _ (by simp)⟩ (fun hHeld3 => ?_)
              clear hHeld2
              refine wpAnyH_take (i := 28) (oi := o28) (v := ?_) rfl (by kernel_rfl) (by kernel_rfl) (by kernel_rfl) (fun _ _ _ h => h) (Or.inl ⟨by rfl, ?_⟩) (by assumption) ?_
              rotate_left
              · (intro w hSw; have hcv := conv_at w _ (x3 X Y Z k) hSw.2; (try dsimp only [o28]); go_simp <;> with_reducible rfl)
              simp only [o28, Act.put, List.setIfInBounds_toArray, List.set_cons_zero, List.set_cons_succ]
              refine wpAnyH_take (i := 29) (oi := o29) (v := ?_) rfl (by kernel_rfl) (by kernel_rfl) (by kernel_rfl) (fun _ _ _ h => h) (Or.inl ⟨by rfl, ?_⟩) (by assumption) ?_
              rotate_left
              · (intro w hSw; (try dsimp only [o29] at hSw ⊢); go_simp <;> with_reducible rfl)
              simp only [o29, Act.put, List.setIfInBounds_toArray, List.set_cons_zero, List.set_cons_succ]
              have hHeld := hHeld3
              clear hHeld3
              refine wpAnyH_ready (rs := [3]) (by kernel_rfl) (by simp) ?_
              refine AllReadyH.cons rfl (fun K hK => ?_) ?_
              · go_simp
                refine hK.out _ _ ?_ (fun hHeld2 => ?_)
                · exact ⟨⟨⟨⟨kept _ hHeld.1.1.1.1, kept _ hHeld.1.1.1.2.1, kept _ hHeld.1.1.1.2.2⟩, kept _ hHeld.1.1.2⟩, kept _ hHeld.1.2⟩, kept _ hHeld.2⟩
                clear hK K
                refine wpAnyH_with (fun w' : World => (((((w'.cell? ⟨V, 0, none⟩ = some (.int .u8 ((X k).toNat : Int)) ∧ w'.cell? ⟨V, 1, none⟩ = some (.int .u8 ((Y k).toNat : Int)) ∧ w'.cell? ⟨V, 2, none⟩ = some (.int .u8 ((Z k).toNat : Int))) ∧ w'.cell? ⟨w5.heap.size, 0, none⟩ = some (.int .u8 ((Z k).toNat : Int))) ∧ w'.cell? ⟨w5.heap.size + 1, 0, none⟩ = some (.int .u8 ((Y k).toNat : Int))) ∧ w'.cell? ⟨w5.heap.size + 1 + 1, 0, none⟩ = some (.int .u8 ((x3 X Y Z k).toNat : Int))) ∧ w'.cell? ⟨w5.heap.size + 1 + 1 + 1, 0, none⟩ = some (.int .u8 ((X k).toNat : Int)))) (fun _ h => h.1) ⟨hHeld2, newc _ _ _ (by simp)⟩ (fun hHeld3 => ?_)
                clear hHeld2
                refine wpAnyH_take (i := 4) (oi := o4) (v := ?_) rfl (by kernel_rfl) (by kernel_rfl) (by kernel_rfl) (fun _ _ _ h => h) (Or.inl ⟨by rfl, ?_⟩) (by assumption) ?_
                rotate_left
                · (intro w hSw; have hcv := conv_at w _ (X k) hSw.2; (try dsimp only [o4]); go_simp <;> with_reducible rfl)
                simp only [o4, Act.put, List.setIfInBounds_toArray, List.set_cons_zero, List.set_cons_succ]
                refine wpAnyH_take (i := 5) (oi := o5) (v := ?_) rfl (by kernel_rfl) (by kernel_rfl) (by kernel_rfl) (fun _ _ _ h => h) (Or.inl ⟨by rfl, ?_⟩) (by assumption) ?_
                rotate_left
                · (intro w hSw; (try dsimp only [o5] at hSw ⊢); go_simp <;> with_reducible rfl)
                simp only [o5, Act.put, List.setIfInBounds_toArray, List.set_cons_zero, List.set_cons_succ]
                refine wpAnyH_take (i := 30) (oi := o30) (v := ?_) rfl (by kernel_rfl) (by kernel_rfl) (by kernel_rfl) (fun _ _ _ h => h) (Or.inl ⟨by rfl, ?_⟩) (by assumption) ?_
                rotate_left
                · (intro w hSw; (try dsimp only [o30] at hSw ⊢); go_simp <;> with_reducible rfl)
                simp only [o30, Act.put, List.setIfInBounds_toArray, List.set_cons_zero, List.set_cons_succ]
                refine wpAnyH_take (i := 31) (oi := o31) (v := ?_) rfl (by kernel_rfl) (by kernel_rfl) (by kernel_rfl) (fun _ _ _ h => h) (Or.inl ⟨by rfl, ?_⟩) (by assumption) ?_
                rotate_left
                · (intro w hSw; (try dsimp only [o31] at hSw ⊢); go_simp <;> with_reducible rfl)
                simp only [o31, Act.put, List.setIfInBounds_toArray, List.set_cons_zero, List.set_cons_succ]
                refine wpAnyH_take (i := 32) (oi := o32) (v := ?_) rfl (by kernel_rfl) (by kernel_rfl) (by kernel_rfl) (fun _ _ _ h => h) (Or.inl ⟨by rfl, ?_⟩) (by assumption) ?_
                rotate_left
                · (intro w hSw; (try dsimp only [o32] at hSw ⊢); go_simp <;> with_reducible rfl)
                simp only [o32, Act.put, List.setIfInBounds_toArray, List.set_cons_zero, List.set_cons_succ]
                refine wpAnyH_take (i := 33) (oi := o33) (v := ?_) rfl (by kernel_rfl) (by kernel_rfl) (by kernel_rfl) (fun _ _ _ h => h) (Or.inl ⟨by rfl, ?_⟩) (by assumption) ?_
                rotate_left
                · (intro w hSw; (try dsimp only [o33] at hSw ⊢); go_simp <;> with_reducible rfl)
                simp only [o33, Act.put, List.setIfInBounds_toArray, List.set_cons_zero, List.set_cons_succ]
                have hHeld := hHeld3
                clear hHeld3
                refine wpAnyH_done (by kernel_rfl) ?_ _
                go_wp2_with fail
                go_roundw
                case rel => exact ⟨k + 1, by omega, rfl, rfl, rfl, rfl, by go_num, (((((hb5.alloc hb5.size _).alloc (by have := hb5.size; simp; omega) _).alloc (by have := hb5.size; simp; omega) _).alloc (by have := hb5.size; simp; omega) _).drew)⟩
                case measure => simp [intOf]; omega
              exact AllReadyH.nil
            exact AllReadyH.nil
          refine AllReadyH.cons rfl (fun K hK => ?_) ?_
          · go_simp
            refine hK.out _ _ ?_ (fun hHeld2 => ?_)
            · exact ⟨⟨kept _ hHeld.1.1, kept _ hHeld.1.2.1, kept _ hHeld.1.2.2⟩, kept _ hHeld.2⟩
            clear hK K
            refine wpAnyH_with (fun w' : World => (((w'.cell? ⟨V, 0, none⟩ = some (.int .u8 ((X k).toNat : Int)) ∧ w'.cell? ⟨V, 1, none⟩ = some (.int .u8 ((Y k).toNat : Int)) ∧ w'.cell? ⟨V, 2, none⟩ = some (.int .u8 ((Z k).toNat : Int))) ∧ w'.cell? ⟨w5.heap.size, 0, none⟩ = some (.int .u8 ((Z k).toNat : Int))) ∧ w'.cell? ⟨w5.heap.size + 1, 0, none⟩ = some (.int .u8 ((x3 X Y Z k).toNat : Int)))) (fun _ h => h.1) ⟨hHeld2, newc _ _ _ (by simp)⟩ (fun hHeld3 => ?_)
            clear hHeld2
            refine wpAnyH_take (i := 28) (oi := o28) (v := ?_) rfl (by kernel_rfl) (by kernel_rfl) (by kernel_rfl) (fun _ _ _ h => h) (Or.inl ⟨by rfl, ?_⟩) (by assumption) ?_
            rotate_left
            · (intro w hSw; have hcv := conv_at w _ (x3 X Y Z k) hSw.2; (try dsimp only [o28]); go_simp <;> with_reducible rfl)
            simp only [o28, Act.put, List.setIfInBounds_toArray, List.set_cons_zero, List.set_cons_succ]
            refine wpAnyH_take (i := 29) (oi := o29) (v := ?_) rfl (by kernel_rfl) (by kernel_rfl) (by kernel_rfl) (fun _ _ _ h => h) (Or.inl ⟨by rfl, ?_⟩) (by assumption) ?_
            rotate_left
            · (intro w hSw; (try dsimp only [o29] at hSw ⊢); go_simp <;> with_reducible rfl)
            simp only [o29, Act.put, List.setIfInBounds_toArray, List.set_cons_zero, List.set_cons_succ]
            have hHeld := hHeld3
            clear hHeld3
            refine wpAnyH_ready (rs := [3, 9]) (by kernel_rfl) (by simp) ?_
            refine AllReadyH.cons rfl (fun K hK => ?_) ?_
            · go_simp
              refine hK.out _ _ ?_ (fun hHeld2 => ?_)
              · exact ⟨⟨⟨kept _ hHeld.1.1.1, kept _ hHeld.1.1.2.1, kept _ hHeld.1.1.2.2⟩, kept _ hHeld.1.2⟩, kept _ hHeld.2⟩
              clear hK K
              refine wpAnyH_with (fun w' : World => ((((w'.cell? ⟨V, 0, none⟩ = some (.int .u8 ((X k).toNat : Int)) ∧ w'.cell? ⟨V, 1, none⟩ = some (.int .u8 ((Y k).toNat : Int)) ∧ w'.cell? ⟨V, 2, none⟩ = some (.int .u8 ((Z k).toNat : Int))) ∧ w'.cell? ⟨w5.heap.size, 0, none⟩ = some (.int .u8 ((Z k).toNat : Int))) ∧ w'.cell? ⟨w5.heap.size + 1, 0, none⟩ = some (.int .u8 ((x3 X Y Z k).toNat : Int))) ∧ w'.cell? ⟨w5.heap.size + 1 + 1, 0, none⟩ = some (.int .u8 ((X k).toNat : Int)))) (fun _ h => h.1) ⟨hHeld2, newc _ _ _ (by simp)⟩ (fun hHeld3 => ?_)
              clear hHeld2
              refine wpAnyH_take (i := 4) (oi := o4) (v := ?_) rfl (by kernel_rfl) (by kernel_rfl) (by kernel_rfl) (fun _ _ _ h => h) (Or.inl ⟨by rfl, ?_⟩) (by assumption) ?_
              rotate_left
              · (intro w hSw; have hcv := conv_at w _ (X k) hSw.2; (try dsimp only [o4]); go_simp <;> with_reducible rfl)
              simp only [o4, Act.put, List.setIfInBounds_toArray, List.set_cons_zero, List.set_cons_succ]
              refine wpAnyH_take (i := 5) (oi := o5) (v := ?_) rfl (by kernel_rfl) (by kernel_rfl) (by kernel_rfl) (fun _ _ _ h => h) (Or.inl ⟨by rfl, ?_⟩) (by assumption) ?_
              rotate_left
              · (intro w hSw; (try dsimp only [o5] at hSw ⊢); go_simp <;> with_reducible rfl)
              simp only [o5, Act.put, List.setIfInBounds_toArray, List.set_cons_zero, List.set_cons_succ]
              refine wpAnyH_take (i := 30) (oi := o30) (v := ?_) rfl (by kernel_rfl) (by kernel_rfl) (by kernel_rfl) (fun _ _ _ h => h) (Or.inl ⟨by rfl, ?_⟩) (by assumption) ?_
              rotate_left
              · (intro w hSw; (try dsimp only [o30] at hSw ⊢); go_simp <;> with_reducible rfl)
              simp only [o30, Act.put, List.setIfInBounds_toArray, List.set_cons_zero, List.set_cons_succ]
              have hHeld := hHeld3
              clear hHeld3
              refine wpAnyH_ready (rs := [9]) (by kernel_rfl) (by simp) ?_
              refine AllReadyH.cons rfl (fun K hK => ?_) ?_
              · go_simp
                refine hK.out _ _ ?_ (fun hHeld2 => ?_)
                · exact ⟨⟨⟨⟨kept _ hHeld.1.1.1.1, kept _ hHeld.1.1.1.2.1, kept _ hHeld.1.1.1.2.2⟩, kept _ hHeld.1.1.2⟩, kept _ hHeld.1.2⟩, kept _ hHeld.2⟩
                clear hK K
                refine wpAnyH_with (fun w' : World => (((((w'.cell? ⟨V, 0, none⟩ = some (.int .u8 ((X k).toNat : Int)) ∧ w'.cell? ⟨V, 1, none⟩ = some (.int .u8 ((Y k).toNat : Int)) ∧ w'.cell? ⟨V, 2, none⟩ = some (.int .u8 ((Z k).toNat : Int))) ∧ w'.cell? ⟨w5.heap.size, 0, none⟩ = some (.int .u8 ((Z k).toNat : Int))) ∧ w'.cell? ⟨w5.heap.size + 1, 0, none⟩ = some (.int .u8 ((x3 X Y Z k).toNat : Int))) ∧ w'.cell? ⟨w5.heap.size + 1 + 1, 0, none⟩ = some (.int .u8 ((X k).toNat : Int))) ∧ w'.cell? ⟨w5.heap.size + 1 + 1 + 1, 0, none⟩ = some (.int .u8 ((Y k).toNat : Int)))) (fun _ h => h.1) ⟨hHeld2, newc _ _ _ (by simp)⟩ (fun hHeld3 => ?_)
                clear hHeld2
                refine wpAnyH_take (i := 10) (oi := o10) (v := ?_) rfl (by kernel_rfl) (by kernel_rfl) (by kernel_rfl) (fun _ _ _ h => h) (Or.inl ⟨by rfl, ?_⟩) (by assumption) ?_
                rotate_left
                · (intro w hSw; have hcv := conv_at w _ (Y k) hSw.2; (try dsimp only [o10]); go_simp <;> with_reducible rfl)
                simp only [o10, Act.put, List.setIfInBounds_toArray, List.set_cons_zero, List.set_cons_succ]
                refine wpAnyH_take (i := 11) (oi := o11) (v := ?_) rfl (by kernel_rfl) (by kernel_rfl) (by kernel_rfl) (fun _ _ _ h => h) (Or.inl ⟨by rfl, ?_⟩) (by assumption) ?_
                rotate_left
                · (intro w hSw; (try dsimp only [o11] at hSw ⊢); go_simp <;> with_reducible rfl)
                simp only [o11, Act.put, List.setIfInBounds_toArray, List.set_cons_zero, List.set_cons_succ]
                refine wpAnyH_take (i := 31) (oi := o31) (v := ?_) rfl (by kernel_rfl) (by kernel_rfl) (by kernel_rfl) (fun _ _ _ h => h) (Or.inl ⟨by rfl, ?_⟩) (by assumption) ?_
                rotate_left
                · (intro w hSw; (try dsimp only [o31] at hSw ⊢); go_simp <;> with_reducible rfl)
                simp only [o31, Act.put, List.setIfInBounds_toArray, List.set_cons_zero, List.set_cons_succ]
                refine wpAnyH_take (i := 32) (oi := o32) (v := ?_) rfl (by kernel_rfl) (by kernel_rfl) (by kernel_rfl) (fun _ _ _ h => h) (Or.inl ⟨by rfl, ?_⟩) (by assumption) ?_
                rotate_left
                · (intro w hSw; (try dsimp only [o32] at hSw ⊢); go_simp <;> with_reducible rfl)
                simp only [o32, Act.put, List.setIfInBounds_toArray, List.set_cons_zero, List.set_cons_succ]
                refine wpAnyH_take (i := 33) (oi := o33) (v := ?_) rfl (by kernel_rfl) (by kernel_rfl) (by kernel_rfl) (fun _ _ _ h => h) (Or.inl ⟨by rfl, ?_⟩) (by assumption) ?_
                rotate_left
                · (intro w hSw; (try dsimp only [o33] at hSw ⊢); go_simp <;> with_reducible rfl)
                simp only [o33, Act.put, List.setIfInBounds_toArray, List.set_cons_zero, List.set_cons_succ]
                have hHeld := hHeld3
                clear hHeld3
                refine wpAnyH_done (by kernel_rfl) ?_ _
                go_wp2_with fail
                go_roundw
                case rel => exact ⟨k + 1, by omega, rfl, rfl, rfl, rfl, by go_num, (((((hb5.alloc hb5.size _).alloc (by have := hb5.size; simp; omega) _).alloc (by have := hb5.size; simp; omega) _).alloc (by have := hb5.size; simp; omega) _).drew)⟩
                case measure => simp [intOf]; omega
              exact AllReadyH.nil
            refine AllReadyH.cons rfl (fun K hK => ?_) ?_
            · go_simp
              refine hK.out _ _ ?_ (fun hHeld2 => ?_)
              · exact ⟨⟨⟨kept _ hHeld.1.1.1, kept _ hHeld.1.1.2.1, kept _ hHeld.1.1.2.2⟩, kept _ hHeld.1.2⟩, kept _ hHeld.2⟩
              clear hK K
              refine wpAnyH_with (fun w' : World => ((((w'.cell? ⟨V, 0, none⟩ = some (.int .u8 ((X k).toNat : Int)) ∧ w'.cell? ⟨V, 1, none⟩ = some (.int .u8 ((Y k).toNat : Int)) ∧ w'.cell? ⟨V, 2, none⟩ = some (.int .u8 ((Z k).toNat : Int))) ∧ w'.cell? ⟨w5.heap.size, 0, none⟩ = some (.int .u8 ((Z k).toNat : Int))) ∧ w'.cell? ⟨w5.heap.size + 1, 0, none⟩ = some (.int .u8 ((x3 X Y Z k).toNat : Int))) ∧ w'.cell? ⟨w5.heap.size + 1 + 1, 0, none⟩ = some (.int .u8 ((Y k).toNat : Int)))) (fun _ h => h.1) ⟨hHeld2, newc _ _ _ (by simp)⟩ (fun hHeld3 => ?_)
              clear hHeld2
              refine wpAnyH_take (i := 10) (oi := o10) (v := ?_) rfl (by kernel_rfl) (by kernel_rfl) (by kernel_rfl) (fun _ _ _ h => h) (Or.inl ⟨by rfl, ?_⟩) (by assumption) ?_
              rotate_left
              · (intro w hSw; have hcv := conv_at w _ (Y k) hSw.2; (try dsimp only [o10]); go_simp <;> with_reducible rfl)
              simp only [o10, Act.put, List.setIfInBounds_toArray, List.set_cons_zero, List.set_cons_succ]
              refine wpAnyH_take (i := 11) (oi := o11) (v := ?_) rfl (by kernel_rfl) (by kernel_rfl) (by kernel_rfl) (fun _ _ _ h => h) (Or.inl ⟨by rfl, ?_⟩) (by assumption) ?_
              rotate_left
              · (intro w hSw; (try dsimp only [o11] at hSw ⊢); go_simp <;> with_reducible rfl)
              simp only [o11, Act.put, List.setIfInBounds_toArray, List.set_cons_zero, List.set_cons_succ]
              have hHeld := hHeld3
              clear hHeld3
              refine wpAnyH_ready (rs := [3]) (by kernel_rfl) (by simp) ?_
              refine AllReadyH.cons rfl (fun K hK => ?_) ?_
              · go_simp
                refine hK.out _ _ ?_ (fun hHeld2 => ?_)
                · exact ⟨⟨⟨⟨kept _ hHeld.1.1.1.1, kept _ hHeld.1.1.1.2.1, kept _ hHeld.1.1.1.2.2⟩, kept _ hHeld.1.1.2⟩, kept _ hHeld.1.2⟩, kept _ hHeld.2⟩
                clear hK K
                refine wpAnyH_with (fun w' : World => (((((w'.cell? ⟨V, 0, none⟩ = some (.int .u8 ((X k).toNat : Int)) ∧ w'.cell? ⟨V, 1, none⟩ = some (.int .u8 ((Y k).toNat : Int)) ∧ w'.cell? ⟨V, 2, none⟩ = some (.int .u8 ((Z k).toNat : Int))) ∧ w'.cell? ⟨w5.heap.size, 0, none⟩ = some (.int .u8 ((Z k).toNat : Int))) ∧ w'.cell? ⟨w5.heap.size + 1, 0, none⟩ = some (.int .u8 ((x3 X Y Z k).toNat : Int))) ∧ w'.cell? ⟨w5.heap.size + 1 + 1, 0, none⟩ = some (.int .u8 ((Y k).toNat : Int))) ∧ w'.cell? ⟨w5.heap.size + 1 + 1 + 1, 0, none⟩ = some (.int .u8 ((X k).toNat : Int)))) (fun _ h => h.1) ⟨hHeld2, newc _ _ _ (by simp)⟩ (fun hHeld3 => ?_)
                clear hHeld2
                refine wpAnyH_take (i := 4) (oi := o4) (v := ?_) rfl (by kernel_rfl) (by kernel_rfl) (by kernel_rfl) (fun _ _ _ h => h) (Or.inl ⟨by rfl, ?_⟩) (by assumption) ?_
                rotate_left
                · (intro w hSw; have hcv := conv_at w _ (X k) hSw.2; (try dsimp only [o4]); go_simp <;> with_reducible rfl)
                simp only [o4, Act.put, List.setIfInBounds_toArray, List.set_cons_zero, List.set_cons_succ]
                refine wpAnyH_take (i := 5) (oi := o5) (v := ?_) rfl (by kernel_rfl) (by kernel_rfl) (by kernel_rfl) (fun _ _ _ h => h) (Or.inl ⟨by rfl, ?_⟩) (by assumption) ?_
                rotate_left
                · (intro w hSw; (try dsimp only [o5] at hSw ⊢); go_simp <;> with_reducible rfl)
                simp only [o5, Act.put, List.setIfInBounds_toArray, List.set_cons_zero, List.set_cons_succ]
                refine wpAnyH_take (i := 30) (oi := o30) (v := ?_) rfl (by kernel_rfl) (by kernel_rfl) (by kernel_rfl) (fun _ _ _ h => h) (Or.inl ⟨by rfl, ?_⟩) (by assumption) ?_
                rotate_left
                · (intro w hSw; (try dsimp only [o30] at hSw ⊢); go_simp <;> with_reducible rfl)
                simp only [o30, Act.put, List.setIfInBounds_toArray, List.set_cons_zero, List.set_cons_succ]
                refine wpAnyH_take (i := 31) (oi := o31) (v := ?_) rfl (by kernel_rfl) (by kernel_rfl) (by kernel_rfl) (fun _ _ _ h => h) (Or.inl ⟨by rfl, ?_⟩) (by assumption) ?_
                rotate_left
                · (intro w hSw; (try dsimp only [o31] at hSw ⊢); go_simp <;> with_reducible rfl)
                simp only [o31, Act.put, List.setIfInBounds_toArray, List.set_cons_zero, List.set_cons_succ]
                refine wpAnyH_take (i := 32) (oi := o32) (v := ?_) rfl (by kernel_rfl) (by kernel_rfl) (by kernel_rfl) (fun _ _ _ h => h) (Or.inl ⟨by rfl, ?_⟩) (by assumption) ?_
                rotate_left
                · (intro w hSw; (try dsimp only [o32] at hSw ⊢); go_simp <;> with_reducible rfl)
                simp only [o32, Act.put, List.setIfInBounds_toArray, List.set_cons_zero, List.set_cons_succ]
                refine wpAnyH_take (i := 33) (oi := o33) (v := ?_) rfl (by kernel_rfl) (by kernel_rfl) (by kernel_rfl) (fun _ _ _ h => h) (Or.inl ⟨by rfl, ?_⟩) (by assumption) ?_
                rotate_left
                · (intro w hSw; (try dsimp only [o33] at hSw ⊢); go_simp <;> with_reducible rfl)
                simp only [o33, Act.put, List.setIfInBounds_toArray, List.set_cons_zero, List.set_cons_succ]
                have hHeld := hHeld3
                clear hHeld3
                refine wpAnyH_done (by kernel_rfl) ?_ _
                go_wp2_with fail
                go_roundw
                case rel => exact ⟨k + 1, by omega, rfl, rfl, rfl, rfl, by go_num, (((((hb5.alloc hb5.size _).alloc (by have := hb5.size; simp; omega) _).alloc (by have := hb5.size; simp; omega) _).alloc (by have := hb5.size; simp; omega) _).drew)⟩
                case measure => simp [intOf]; omega
              exact AllReadyH.nil
            exact AllReadyH.nil
          exact AllReadyH.nil
        refine AllReadyH.cons rfl (fun K hK => ?_) ?_
        · go_simp
          refine hK.out _ _ ?_ (fun hHeld2 => ?_)
          · exact ⟨kept _ hHeld.1, kept _ hHeld.2.1, kept _ hHeld.2.2⟩
          clear hK K
          refine wpAnyH_with (fun w' : World => ((w'.cell? ⟨V, 0, none⟩ = some (.int .u8 ((X k).toNat : Int)) ∧ w'.cell? ⟨V, 1, none⟩ = some (.int .u8 ((Y k).toNat : Int)) ∧ w'.cell? ⟨V, 2, none⟩ = some (.int .u8 ((Z k).toNat : Int))) ∧ w'.cell? ⟨w5.heap.size, 0, none⟩ = some (.int .u8 ((x3 X Y Z k).toNat : Int)))) (fun _ h => h.1) ⟨hHeld2, newc _ _ _ (by simp)⟩ (fun hHeld3 => ?_)
          clear hHeld2
          refine wpAnyH_take (i := 28) (oi := o28) (v := ?_) rfl (by kernel_rfl) (by kernel_rfl) (by kernel_rfl) (fun _ _ _ h => h) (Or.inl ⟨by rfl, ?_⟩) (by assumption) ?_
          rotate_left
          · (intro w hSw; have hcv := conv_at w _ (x3 X Y Z k) hSw.2; (try dsimp only [o28]); go_simp <;> with_reducible rfl)
          simp only [o28, Act.put, List.setIfInBounds_toArray, List.set_cons_zero, List.set_cons_succ]
          refine wpAnyH_take (i := 29) (oi := o29) (v := ?_) rfl (by kernel_rfl) (by kernel_rfl) (by kernel_rfl) (fun _ _ _ h => h) (Or.inl ⟨by rfl, ?_⟩) (by assumption) ?_
          rotate_left
          · (intro w hSw; (try dsimp only [o29] at hSw ⊢); go_simp <;> with_reducible rfl)
          simp only [o29, Act.put, List.setIfInBounds_toArray, List.set_cons_zero, List.set_cons_succ]
          have hHeld := hHeld3
          clear hHeld3
          refine wpAnyH_ready (rs := [3, 9, 15]) (by kernel_rfl) (by simp) ?_
          refine AllReadyH.cons rfl (fun K hK => ?_) ?_
          · go_simp
            refine hK.out _ _ ?_ (fun hHeld2 => ?_)
            · exact ⟨⟨kept _ hHeld.1.1, kept _ hHeld.1.2.1, kept _ hHeld.1.2.2⟩, kept _ hHeld.2⟩
            clear hK K
            refine wpAnyH_with (fun w' : World => (((w'.cell? ⟨V, 0, none⟩ = some (.int .u8 ((X k).toNat : Int)) ∧ w'.cell? ⟨V, 1, none⟩ = some (.int .u8 ((Y k).toNat : Int)) ∧ w'.cell? ⟨V, 2, none⟩ = some (.int .u8 ((Z k).toNat : Int))) ∧ w'.cell? ⟨w5.heap.size, 0, none⟩ = some (.int .u8 ((x3 X Y Z k).toNat : Int))) ∧ w'.cell? ⟨w5.heap.size + 1, 0, none⟩ = some (.int .u8 ((X k).toNat : Int)))) (fun _ h => h.1) ⟨hHeld2, newc _ _ _ (by simp)⟩ (fun hHeld3 => ?_)
            clear hHeld2
            refine wpAnyH_take (i := 4) (oi := o4) (v := ?_) rfl (by kernel_rfl) (by kernel_rfl) (by kernel_rfl) (fun _ _ _ h => h) (Or.inl ⟨by rfl, ?_⟩) (by assumption) ?_
            rotate_left
            · (intro w hSw; have hcv := conv_at w _ (X k) hSw.2; (try dsimp only [o4]); go_simp <;> with_reducible rfl)
            simp only [o4, Act.put, List.setIfInBounds_toArray, List.set_cons_zero, List.set_cons_succ]
            refine wpAnyH_take (i := 5) (oi := o5) (v := ?_) rfl (by kernel_rfl) (by kernel_rfl) (by kernel_rfl) (fun _ _ _ h => h) (Or.inl ⟨by rfl, ?_⟩) (by assumption) ?_
            rotate_left
            · (intro w hSw; (try dsimp only [o5] at hSw ⊢); go_simp <;> with_reducible rfl)
            simp only [o5, Act.put, List.setIfInBounds_toArray, List.set_cons_zero, List.set_cons_succ]
            refine wpAnyH_take (i := 30) (oi := o30) (v := ?_) rfl (by kernel_rfl) (by kernel_rfl) (by kernel_rfl) (fun _ _ _ h => h) (Or.inl ⟨by rfl, ?_⟩) (by assumption) ?_
            rotate_left
            · (intro w hSw; (try dsimp only [o30] at hSw ⊢); go_simp <;> with_reducible rfl)
            simp only [o30, Act.put, List.setIfInBounds_toArray, List.set_cons_zero, List.set_cons_succ]
            have hHeld := hHeld3
            clear hHeld3
            refine wpAnyH_ready (rs := [9, 15]) (by kernel_rfl) (by simp) ?_
            refine AllReadyH.cons rfl (fun K hK => ?_) ?_
            · go_simp
              refine hK.out _ _ ?_ (fun hHeld2 => ?_)
              · exact ⟨⟨⟨kept _ hHeld.1.1.1, kept _ hHeld.1.1.2.1, kept _ hHeld.1.1.2.2⟩, kept _ hHeld.1.2⟩, kept _ hHeld.2⟩
              clear hK K
              refine wpAnyH_with (fun w' : World => ((((w'.cell? ⟨V, 0, none⟩ = some (.int .u8 ((X k).toNat : Int)) ∧ w'.cell? ⟨V, 1, none⟩ = some (.int .u8 ((Y k).toNat : Int)) ∧ w'.cell? ⟨V, 2, none⟩ = some (.int .u8 ((Z k).toNat : Int))) ∧ w'.cell? ⟨w5.heap.size, 0, none⟩ = some (.int .u8 ((x3 X Y Z k).toNat : Int))) ∧ w'.cell? ⟨w5.heap.size + 1, 0, none⟩ = some (.int .u8 ((X k).toNat : Int))) ∧ w'.cell? ⟨w5.heap.size + 1 + 1, 0, none⟩ = some (.int .u8 ((Y k).toNat : Int)))) (fun _ h => h.1) ⟨hHeld2, newc _ _ _ (by simp)⟩ (fun hHeld3 => ?_)
              clear hHeld2
              refine wpAnyH_take (i := 10) (oi := o10) (v := ?_) rfl (by kernel_rfl) (by kernel_rfl) (by kernel_rfl) (fun _ _ _ h => h) (Or.inl ⟨by rfl, ?_⟩) (by assumption) ?_
              rotate_left
              · (intro w hSw; have hcv := conv_at w _ (Y k) hSw.2; (try dsimp only [o10]); go_simp <;> with_reducible rfl)
              simp only [o10, Act.put, List.setIfInBounds_toArray, List.set_cons_zero, List.set_cons_succ]
              refine wpAnyH_take (i := 11) (oi := o11) (v := ?_) rfl (by kernel_rfl) (by kernel_rfl) (by kernel_rfl) (fun _ _ _ h => h) (Or.inl ⟨by rfl, ?_⟩) (by assumption) ?_
              rotate_left
              · (intro w hSw; (try dsimp only [o11] at hSw ⊢); go_simp <;> with_reducible rfl)
              simp only [o11, Act.put, List.setIfInBounds_toArray, List.set_cons_zero, List.set_cons_succ]
              refine wpAnyH_take (i := 31) (oi := o31) (v := ?_) rfl (by kernel_rfl) (by kernel_rfl) (by kernel_rfl) (fun _ _ _ h => h) (Or.inl ⟨by rfl, ?_⟩) (by assumption) ?_
              rotate_left
              · (intro w hSw; (try dsimp only [o31] at hSw ⊢); go_simp <;> with_reducible rfl)
              simp only [o31, Act.put, List.setIfInBounds_toArray, List.set_cons_zero, List.set_cons_succ]
              have hHeld := hHeld3
              clear hHeld3
              refine wpAnyH_ready (rs := [15]) (by kernel_rfl) (by simp) ?_
              refine AllReadyH.cons rfl (fun K hK => ?_) ?_
              · go_simp
                refine hK.out _ _ ?_ (fun hHeld2 => ?_)
                · exact ⟨⟨⟨⟨kept _ hHeld.1.1.1.1, kept _ hHeld.1.1.1.2.1, kept _ hHeld.1.1.1.2.2⟩, kept _ hHeld.1.1.2⟩, kept _ hHeld.1.2⟩, kept _ hHeld.2⟩
                clear hK K
                refine wpAnyH_with (fun w' : World => (((((w'.cell? ⟨V, 0, none⟩ = some (.int .u8 ((X k).toNat : Int)) ∧ w'.cell? ⟨V, 1, none⟩ = some (.int .u8 ((Y k).toNat : Int)) ∧ w'.cell? ⟨V, 2, none⟩ = some (.int .u8 ((Z k).toNat : Int))) ∧ w'.cell? ⟨w5.heap.size, 0, none⟩ = some (.int .u8 ((x3 X Y Z k).toNat : Int))) ∧ w'.cell? ⟨w5.heap.size + 1, 0, none⟩ = some (.int .u8 ((X k).toNat : Int))) ∧ w'.cell? ⟨w5.heap.size + 1 + 1, 0, none⟩ = some (.int .u8 ((Y k).toNat : Int))) ∧ w'.cell? ⟨w5.heap.size + 1 + 1 + 1, 0, none⟩ = some (.int .u8 ((Z k).toNat : Int)))) (fun _ h => h.1) ⟨hHeld2, newc _ _ _ (by simp)⟩ (fun hHeld3 => ?_)
                clear hHeld2
                refine wpAnyH_take (i := 16) (oi := o16) (v := ?_) rfl (by kernel_rfl) (by kernel_rfl) (by kernel_rfl) (fun _ _ _ h => h) (Or.inl ⟨by rfl, ?_⟩) (by assumption) ?_
                rotate_left
                · (intro w hSw; have hcv := conv_at w _ (Z k) hSw.2; (try dsimp only [o16]); go_simp <;> with_reducible rfl)
                simp only [o16, Act.put, List.setIfInBounds_toArray, List.set_cons_zero, List.set_cons_succ]
                refine wpAnyH_take (i := 17) (oi := o17) (v := ?_) rfl (by kernel_rfl) (by kernel_rfl) (by kernel_rfl) (fun _ _ _ h => h) (Or.inl ⟨by rfl, ?_⟩) (by assumption) ?_
                rotate_left
                · (intro w hSw; (try dsimp only [o17] at hSw ⊢); go_simp <;> with_reducible rfl)
                simp only [o17, Act.put, List.setIfInBounds_toArray, List.set_cons_zero, List.set_cons_succ]
                refine wpAnyH_take (i := 32) (oi := o32) (v := ?_) rfl (by kernel_rfl) (by kernel_rfl) (by kernel_rfl) (fun _ _ _ h => h) (Or.inl ⟨by rfl, ?_⟩) (by assumption) ?_
                rotate_left
                · (intro w hSw; (try dsimp only [o32] at hSw ⊢); go_simp <;> with_reducible rfl)
                simp only [o32, Act.put, List.setIfInBounds_toArray, List.set_cons_zero, List.set_cons_succ]
                refine wpAnyH_take (i := 33) (oi := o33) (v := ?_) rfl (by kernel_rfl) (by kernel_rfl) (by kernel_rfl) (fun _ _ _ h => h) (Or.inl ⟨by rfl, ?_⟩) (by assumption) ?_
                rotate_left
                · (intro w hSw; (try dsimp only [o33] at hSw ⊢); go_simp <;> with_reducible rfl)
                simp only [o33, Act.put, List.setIfInBounds_toArray, List.set_cons_zero, List.set_cons_succ]
                have hHeld := hHeld3
                clear hHeld3
                refine wpAnyH_done (by kernel_rfl) ?_ _
                go_wp2_with fail
                go_roundw
                case rel => exact ⟨k + 1, by omega, rfl, rfl, rfl, rfl, by go_num, (((((hb5.alloc hb5.size _).alloc (by have := hb5.size; simp; omega) _).alloc (by have := hb5.size; simp; omega) _).alloc (by have := hb5.size; simp; omega) _).drew)⟩
                case measure => simp [intOf]; omega
              exact AllReadyH.nil
            refine AllReadyH.cons rfl (fun K hK => ?_) ?_
            · go_simp
              refine hK.out _ _ ?_ (fun hHeld2 => ?_)
              · exact ⟨⟨⟨kept _ hHeld.1.1.1, kept _ hHeld.1.1.2.1, kept _ hHeld.1.1.2.2⟩, kept _ hHeld.1.2⟩, kept _ hHeld.2⟩
              clear hK K
              refine wpAnyH_with (fun w' : World => ((((w'.cell? ⟨V, 0, none⟩ = some (.int .u8 ((X k).toNat : Int)) ∧ w'.cell? ⟨V, 1, none⟩ = some (.int .u8 ((Y k).toNat : Int)) ∧ w'.cell? ⟨V, 2, none⟩ = some (.int .u8 ((Z k).toNat : Int))) ∧ w'.cell? ⟨w5.heap.size, 0, none⟩ = some (.int .u8 ((x3 X Y Z k).toNat : Int))) ∧ w'.cell? ⟨w5.heap.size + 1, 0, none⟩ = some (.int .u8 ((X k).toNat : Int))) ∧ w'.cell? ⟨w5.heap.size + 1 + 1, 0, none⟩ = some (.int .u8 ((Z k).toNat : Int)))) (fun _ h => h.1) ⟨hHeld2, newc _ _ _ (by simp)⟩ (fun hHeld3 => ?_)
              clear hHeld2
              refine wpAnyH_take (i := 16) (oi := o16) (v := ?_) rfl (by kernel_rfl) (by kernel_rfl) (by kernel_rfl) (fun _ _ _ h => h) (Or.inl ⟨by rfl, ?_⟩) (by assumption) ?_
              rotate_left
              · (intro w hSw; have hcv := conv_at w _ (Z k) hSw.2; (try dsimp only [o16]); go_simp <;> with_reducible rfl)
              simp only [o16, Act.put, List.setIfInBounds_toArray, List.set_cons_zero, List.set_cons_succ]
              refine wpAnyH_take (i := 17) (oi := o17) (v := ?_) rfl (by kernel_rfl) (by kernel_rfl) (by kernel_rfl) (fun _ _ _ h => h) (Or.inl ⟨by rfl, ?_⟩) (by assumption) ?_
              rotate_left
              · (intro w hSw; (try dsimp only [o17] at hSw ⊢); go_simp <;> with_reducible rfl)
              simp only [o17, Act.put, List.setIfInBounds_toArray, List.set_cons_zero, List.set_cons_succ]
              have hHeld := hHeld3
              clear hHeld3
              refine wpAnyH_ready (rs := [9]) (by kernel_rfl) (by simp) ?_
              refine AllReadyH.cons rfl (fun K hK => ?_) ?_
              · go_simp
                refine hK.out _ _ ?_ (fun hHeld2 => ?_)
                · exact ⟨⟨⟨⟨kept _ hHeld.1.1.1.1, kept _ hHeld.1.1.1.2.1, kept _ hHeld.1.1.1.2.2⟩, kept _ hHeld.1.1.2⟩, kept _ hHeld.1.2⟩, kept _ hHeld.2⟩
                clear hK K
                refine wpAnyH_with (fun w' : World => (((((w'.cell? ⟨V, 0, none⟩ = some (.int .u8 ((X k).toNat : Int)) ∧ w'.cell? ⟨V, 1, none⟩ = some (.int .u8 ((Y k).toNat : Int)) ∧ w'.cell? ⟨V, 2, none⟩ = some (.int .u8 ((Z k).toNat : Int))) ∧ w'.cell? ⟨w5.heap.size, 0, none⟩ = some (.int .u8 ((x3 X Y Z k).toNat : Int))) ∧ w'.cell? ⟨w5.heap.size + 1, 0, none⟩ = some (.int .u8 ((X k).toNat : Int))) ∧ w'.cell? ⟨w5.heap.size + 1 + 1, 0, none⟩ = some (.int .u8 ((Z k).toNat : Int))) ∧ w'.cell? ⟨w5.heap.size + 1 + 1 + 1, 0, none⟩ = some (.int .u8 ((Y k).toNat : Int)))) (fun _ h => h.1) ⟨hHeld2, newc _ _ _ (by simp)⟩ (fun hHeld3 => ?_)
                clear hHeld2
                refine wpAnyH_take (i := 10) (oi := o10) (v := ?_) rfl (by kernel_rfl) (by kernel_rfl) (by kernel_rfl) (fun _ _ _ h => h) (Or.inl ⟨by rfl, ?_⟩) (by assumption) ?_
                rotate_left
                · (intro w hSw; have hcv := conv_at w _ (Y k) hSw.2; (try dsimp only [o10]); go_simp <;> with_reducible rfl)
                simp only [o10, Act.put, List.setIfInBounds_toArray, List.set_cons_zero, List.set_cons_succ]
                refine wpAnyH_take (i := 11) (oi := o11) (v := ?_) rfl (by kernel_rfl) (by kernel_rfl) (by kernel_rfl) (fun _ _ _ h => h) (Or.inl ⟨by rfl, ?_⟩) (by assumption) ?_
                rotate_left
                · (intro w hSw; (try dsimp only [o11] at hSw ⊢); go_simp <;> with_reducible rfl)
                simp only [o11, Act.put, List.setIfInBounds_toArray, List.set_cons_zero, List.set_cons_succ]
                refine wpAnyH_take (i := 31) (oi := o31) (v := ?_) rfl (by kernel_rfl) (by kernel_rfl) (by kernel_rfl) (fun _ _ _ h => h) (Or.inl ⟨by rfl, ?_⟩) (by assumption) ?_
                rotate_left
                · (intro w hSw; (try dsimp only [o31] at hSw ⊢); go_simp <;> with_reducible rfl)
                simp only [o31, Act.put, List.setIfInBounds_toArray, List.set_cons_zero, List.set_cons_succ]
                refine wpAnyH_take (i := 32) (oi := o32) (v := ?_) rfl (by kernel_rfl) (by kernel_rfl) (by kernel_rfl) (fun _ _ _ h => h) (Or.inl ⟨by rfl, ?_⟩) (by assumption) ?_
                rotate_left
                · (intro w hSw; (try dsimp only [o32] at hSw ⊢); go_simp <;> with_reducible rfl)
                simp only [o32, Act.put, List.setIfInBounds_toArray, List.set_cons_zero, List.set_cons_succ]
                refine wpAnyH_take (i := 33) (oi := o33) (v := ?_) rfl (by kernel_rfl) (by kernel_rfl) (by kernel_rfl) (fun _ _ _ h => h) (Or.inl ⟨by rfl, ?_⟩) (by assumption) ?_
                rotate_left
                · (intro w hSw; (try dsimp only [o33] at hSw ⊢); go_simp <;> with_reducible rfl)
                simp only [o33, Act.put, List.setIfInBounds_toArray, List.set_cons_zero, List.set_cons_succ]
                have hHeld := hHeld3
                clear hHeld3
                refine wpAnyH_done (by kernel_rfl) ?_ _
                go_wp2_with fail
                go_roundw
                case rel => exact ⟨k + 1, by omega, rfl, rfl, rfl, rfl, by go_num, (((((hb5.alloc hb5.size _).alloc (by have := hb5.size; simp; omega) _).alloc (by have := hb5.size; simp; omega) _).alloc (by have := hb5.size; simp; omega) _).drew)⟩
                case measure => simp [intOf]; omega
              exact AllReadyH.nil
            exact AllReadyH.nil
          refine AllReadyH.cons rfl (fun K hK => ?_) ?_
          · go_simp
            refine hK.out _ _ ?_ (fun hHeld2 => ?_)
            · exact ⟨⟨kept _ hHeld.1.1, kept _ hHeld.1.2.1, kept _ hHeld.1.2.2⟩, kept _ hHeld.2⟩
            clear hK K
            refine wpAnyH_with (fun w' : World => (((w'.cell? ⟨V, 0, none⟩ = some (.int .u8 ((X k).toNat : Int)) ∧ w'.cell? ⟨V, 1, none⟩ = some (.int .u8 ((Y k).toNat : Int)) ∧ w'.cell? ⟨V, 2, none⟩ = some (.int .u8 ((Z k).toNat : Int))) ∧ w'.cell? ⟨w5.heap.size, 0, none⟩ = some (.int .u8 ((x3 X Y Z k).toNat : Int))) ∧ w'.cell? ⟨w5.heap.size + 1, 0, none⟩ = some (.int .u8 ((Y k).toNat : Int)))) (fun _ h => h.1) ⟨hHeld2, newc _ _ _ (by simp)⟩ (fun hHeld3 => ?_)
            clear hHeld2
            refine wpAnyH_take (i := 10) (oi := o10) (v := ?_) rfl (by kernel_rfl) (by kernel_rfl) (by kernel_rfl) (fun _ _ _ h => h) (Or.inl ⟨by rfl, ?_⟩) (by assumption) ?_
            rotate_left
            · (intro w hSw; have hcv := conv_at w _ (Y k) hSw.2; (try dsimp only [o10]); go_simp <;> with_reducible rfl)
            simp only [o10, Act.put, List.setIfInBounds_toArray, List.set_cons_zero, List.set_cons_succ]
            refine wpAnyH_take (i := 11) (oi := o11) (v := ?_) rfl (by kernel_rfl) (by kernel_rfl) (by kernel_rfl) (fun _ _ _ h => h) (Or.inl ⟨by rfl, ?_⟩) (by assumption) ?_
            rotate_left
            · (intro w hSw; (try dsimp only [o11] at hSw ⊢); go_simp <;> with_reducible rfl)
            simp only [o11, Act.put, List.setIfInBounds_toArray, List.set_cons_zero, List.set_cons_succ]
            have hHeld := hHeld3
            clear hHeld3
            refine wpAnyH_ready (rs := [3, 15]) (by kernel_rfl) (by simp) ?_
            refine AllReadyH.cons rfl (fun K hK => ?_) ?_
            · go_simp
              refine hK.out _ _ ?_ (fun hHeld2 => ?_)
              · exact ⟨⟨⟨kept _ hHeld.1.1.1, kept _ hHeld.1.1.2.1, kept _ hHeld.1.1.2.2⟩, kept _ hHeld.1.2⟩, kept _ hHeld.2⟩
              clear hK K
              refine wpAnyH_with (fun w' : World => ((((w'.cell? ⟨V, 0, none⟩ = some (.int .u8 ((X k).toNat : Int)) ∧ w'.cell? ⟨V, 1, none⟩ = some (.int .u8 ((Y k).toNat : Int)) ∧ w'.cell? ⟨V, 2, none⟩ = some (.int .u8 ((Z k).toNat : Int))) ∧ w'.cell? ⟨w5.heap.size, 0, none⟩ = some (.int .u8 ((x3 X Y Z k).toNat : Int))) ∧ w'.cell? ⟨w5.heap.size + 1, 0, none⟩ = some (.int .u8 ((Y k).toNat : Int))) ∧ w'.cell? ⟨w5.heap.size + 1 + 1, 0, none⟩ = some (.int .u8 ((X k).toNat : Int)))) (fun _ h => h.1) ⟨hHeld2, newc _ _ _ (by simp)⟩ (fun hHeld3 => ?_)
              clear hHeld2
              refine wpAnyH_take (i := 4) (oi := o4) (v := ?_) rfl (by kernel_rfl) (by kernel_rfl) (by kernel_rfl) (fun _ _ _ h => h) (Or.inl ⟨by rfl, ?_⟩) (by assumption) ?_
              rotate_left
              · (intro w hSw; have hcv := conv_at w _ (X k) hSw.2; (try dsimp only [o4]); go_simp <;> with_reducible rfl)
              simp only [o4, Act.put, List.setIfInBounds_toArray, List.set_cons_zero, List.set_cons_succ]
              refine wpAnyH_take (i := 5) (oi := o5) (v := ?_) rfl (by kernel_rfl) (by kernel_rfl) (by kernel_rfl) (fun _ _ _ h => h) (Or.inl ⟨by rfl, ?_⟩) (by assumption) ?_
              rotate_left
              · (intro w hSw; (try dsimp only [o5] at hSw ⊢); go_simp <;> with_reducible rfl)
              simp only [o5, Act.put, List.setIfInBounds_toArray, List.set_cons_zero, List.set_cons_succ]
              refine wpAnyH_take (i := 30) (oi := o30) (v := ?_) rfl (by kernel_rfl) (by kernel_rfl) (by kernel_rfl) (fun _ _ _ h => h) (Or.inl ⟨by rfl, ?_⟩) (by assumption) ?_
              rotate_left
              · (intro w hSw; (try dsimp only [o30] at hSw ⊢); go_simp <;> with_reducible rfl)
              simp only [o30, Act.put, List.setIfInBounds_toArray, List.set_cons_zero, List.set_cons_succ]
              refine wpAnyH_take (i := 31) (oi := o31) (v := ?_) rfl (by kernel_rfl) (by kernel_rfl) (by kernel_rfl) (fun _ _ _ h => h) (Or.inl ⟨by rfl, ?_⟩) (by assumption) ?_
              rotate_left
              · (intro w hSw; (try dsimp only [o31] at hSw ⊢); go_simp <;> with_reducible rfl)
              simp only [o31, Act.put, List.setIfInBounds_toArray, List.set_cons_zero, List.set_cons_succ]
              have hHeld := hHeld3
              clear hHeld3
              refine wpAnyH_ready (rs := [15]) (by kernel_rfl) (by simp) ?_
              refine AllReadyH.cons rfl (fun K hK => ?_) ?_
              · go_simp
                refine hK.out _ _ ?_ (fun hHeld2 => ?_)
                · exact ⟨⟨⟨⟨kept _ hHeld.1.1.1.1, kept _ hHeld.1.1.1.2.1, kept _ hHeld.1.1.1.2.2⟩, kept _ hHeld.1.1.2⟩, kept _ hHeld.1.2⟩, kept _ hHeld.2⟩
                clear hK K
                refine wpAnyH_with (fun w' : World => (((((w'.cell? ⟨V, 0, none⟩ = some (.int .u8 ((X k).toNat : Int)) ∧ w'.cell? ⟨V, 1, none⟩ = some (.int .u8 ((Y k).toNat : Int)) ∧ w'.cell? ⟨V, 2, none⟩ = some (.int .u8 ((Z k).toNat : Int))) ∧ w'.cell? ⟨w5.heap.size, 0, none⟩ = some (.int .u8 ((x3 X Y Z k).toNat : Int))) ∧ w'.cell? ⟨w5.heap.size + 1, 0, none⟩ = some (.int .u8 ((Y k).toNat : Int))) ∧ w'.cell? ⟨w5.heap.size + 1 + 1, 0, none⟩ = some (.int .u8 ((X k).toNat : Int))) ∧ w'.cell? ⟨w5.heap.size + 1 + 1 + 1, 0, none⟩ = some (.int .u8 ((Z k).toNat : Int)))) (fun _ h => h.1) ⟨hHeld2, newc _ _ _ (by simp)⟩ (fun hHeld3 => ?_)
                clear hHeld2
                refine wpAnyH_take (i := 16) (oi := o16) (v := ?_) rfl (by kernel_rfl) (by kernel_rfl) (by kernel_rfl) (fun _ _ _ h => h) (Or.inl ⟨by rfl, ?_⟩) (by assumption) ?_
                rotate_left
                · (intro w hSw; have hcv := conv_at w _ (Z k) hSw.2; (try dsimp only [o16]); go_simp <;> with_reducible rfl)
                simp only [o16, Act.put, List.setIfInBounds_toArray, List.set_cons_zero, List.set_cons_succ]
                refine wpAnyH_take (i := 17) (oi := o17) (v := ?_) rfl (by kernel_rfl) (by kernel_rfl) (by kernel_rfl) (fun _ _ _ h => h) (Or.inl ⟨by rfl, ?_⟩) (by assumption) ?_
                rotate_left
                · (intro w hSw; (try dsimp only [o17] at hSw ⊢); go_simp <;> with_reducible rfl)
                simp only [o17, Act.put, List.setIfInBounds_toArray, List.set_cons_zero, List.set_cons_succ]
                refine wpAnyH_take (i := 32) (oi := o32) (v := ?_) rfl (by kernel_rfl) (by kernel_rfl) (by kernel_rfl) (fun _ _ _ h => h) (Or.inl ⟨by rfl, ?_⟩) (by assumption) ?_
                rotate_left
                · (intro w hSw; (try dsimp only [o32] at hSw ⊢); go_simp <;> with_reducible rfl)
                simp only [o32, Act.put, List.setIfInBounds_toArray, List.set_cons_zero, List.set_cons_succ]
                refine wpAnyH_take (i := 33) (oi := o33) (v := ?_) rfl (by kernel_rfl) (by kernel_rfl) (by kernel_rfl) (fun _ _ _ h => h) (Or.inl ⟨by rfl, ?_⟩) (by assumption) ?_
                rotate_left
                · (intro w hSw; (try dsimp only [o33] at hSw ⊢); go_simp <;> with_reducible rfl)
                simp only [o33, Act.put, List.setIfInBounds_toArray, List.set_cons_zero, List.set_cons_succ]
                have hHeld := hHeld3
                clear hHeld3
                refine wpAnyH_done (by kernel_rfl) ?_ _
                go_wp2_with fail
                go_roundw
                case rel => exact ⟨k + 1, by omega, rfl, rfl, rfl, rfl, by go_num, (((((hb5.alloc hb5.size _).alloc (by have := hb5.size; simp; omega) _).alloc (by have := hb5.size; simp; omega) _).alloc (by have := hb5.size; simp; omega) _).drew)⟩
                case measure => simp [intOf]; omega
              exact AllReadyH.nil
            refine AllReadyH.cons rfl (fun K hK => ?_) ?_
            · go_simp
              refine hK.out _ _ ?_ (fun hHeld2 => ?_)
              · exact ⟨⟨⟨kept _ hHeld.1.1.1, kept _ hHeld.1.1.2.1, kept _ hHeld.1.1.2.2⟩, kept _ hHeld.1.2⟩, kept _ hHeld.2⟩
              clear hK K
              refine wpAnyH_with (fun w' : World => ((((w'.cell? ⟨V, 0, none⟩ = some (.int .u8 ((X k).toNat : Int)) ∧ w'.cell? ⟨V, 1, none⟩ = some (.int .u8 ((Y k).toNat : Int)) ∧ w'.cell? ⟨V, 2, none⟩ = some (.int .u8 ((Z k).toNat : Int))) ∧ w'.cell? ⟨w5.heap.size, 0, none⟩ = some (.int .u8 ((x3 X Y Z k).toNat : Int))) ∧ w'.cell? ⟨w5.heap.size + 1, 0, none⟩ = some (.int .u8 ((Y k).toNat : Int))) ∧ w'.cell? ⟨w5.heap.size + 1 + 1, 0, none⟩ = some (.int .u8 ((Z k).toNat : Int)))) (fun _ h => h.1) ⟨hHeld2, newc _ _ _ (by simp)⟩ (fun hHeld3 => ?_)
              clear hHeld2
              refine wpAnyH_take (i := 16) (oi := o16) (v := ?_) rfl (by kernel_rfl) (by kernel_rfl) (by kernel_rfl) (fun _ _ _ h => h) (Or.inl ⟨by rfl, ?_⟩) (by assumption) ?_
              rotate_left
              · (intro w hSw; have hcv := conv_at w _ (Z k) hSw.2; (try dsimp only [o16]); go_simp <;> with_reducible rfl)
              simp only [o16, Act.put, List.setIfInBounds_toArray, List.set_cons_zero, List.set_cons_succ]
              refine wpAnyH_take (i := 17) (oi := o17) (v := ?_) rfl (by kernel_rfl) (by kernel_rfl) (by kernel_rfl) (fun _ _ _ h => h) (Or.inl ⟨by rfl, ?_⟩) (by assumption) ?_
              rotate_left
              · (intro w hSw; (try dsimp only [o17] at hSw ⊢); go_simp <;> with_reducible rfl)
              simp only [o17, Act.put, List.setIfInBounds_toArray, List.set_cons_zero, List.set_cons_succ]
              have hHeld := hHeld3
              clear hHeld3
              refine wpAnyH_ready (rs := [3]) (by kernel_rfl) (by simp) ?_
              refine AllReadyH.cons rfl (fun K hK => ?_) ?_
              · go_simp
                refine hK.out _ _ ?_ (fun hHeld2 => ?_)
                · exact ⟨⟨⟨⟨kept _ hHeld.1.1.1.1, kept _ hHeld.1.1.1.2.1, kept _ hHeld.1.1.1.2.2⟩, kept _ hHeld.1.1.2⟩, kept _ hHeld.1.2⟩, kept _ hHeld.2⟩
                clear hK K
                refine wpAnyH_with (fun w' : World => (((((w'.cell? ⟨V, 0, none⟩ = some (.int .u8 ((X k).toNat : Int)) ∧ w'.cell? ⟨V, 1, none⟩ = some (.int .u8 ((Y k).toNat : Int)) ∧ w'.cell? ⟨V, 2, none⟩ = some (.int .u8 ((Z k).toNat : Int))) ∧ w'.cell? ⟨w5.heap.size, 0, none⟩ = some (.int .u8 ((x3 X Y Z k).toNat : Int))) ∧ w'.cell? ⟨w5.heap.size + 1, 0, none⟩ = some (.int .u8 ((Y k).toNat : Int))) ∧ w'.cell? ⟨w5.heap.size + 1 + 1, 0, none⟩ = some (.int .u8 ((Z k).toNat : Int))) ∧ w'.cell? ⟨w5.heap.size + 1 + 1 + 1, 0, none⟩ = some (.int .u8 ((X k).toNat : Int)))) (fun _ h => h.1) ⟨hHeld2, newc _ _ _ (by simp)⟩ (fun hHeld3 => ?_)
                clear hHeld2
                refine wpAnyH_take (i := 4) (oi := o4) (v := ?_) rfl (by kernel_rfl) (by kernel_rfl) (by kernel_rfl) (fun _ _ _ h => h) (Or.inl ⟨by rfl, ?_⟩) (by assumption) ?_
                rotate_left
                · (intro w hSw; have hcv := conv_at w _ (X k) hSw.2; (try dsimp only [o4]); go_simp <;> with_reducible rfl)
                simp only [o4, Act.put, List.setIfInBounds_toArray, List.set_cons_zero, List.set_cons_succ]
                refine wpAnyH_take (i := 5) (oi := o5) (v := ?_) rfl (by kernel_rfl) (by kernel_rfl) (by kernel_rfl) (fun _ _ _ h => h) (Or.inl ⟨by rfl, ?_⟩) (by assumption) ?_
                rotate_left
                · (intro w hSw; (try dsimp only [o5] at hSw ⊢); go_simp <;> with_reducible rfl)
                simp only [o5, Act.put, List.setIfInBounds_toArray, List.set_cons_zero, List.set_cons_succ]
                refine wpAnyH_take (i := 30) (oi := o30) (v := ?_) rfl (by kernel_rfl) (by kernel_rfl) (by kernel_rfl) (fun _ _ _ h => h) (Or.inl ⟨by rfl, ?_⟩) (by assumption) ?_
                rotate_left
                · (intro w hSw; (try dsimp only [o30] at hSw ⊢); go_simp <;> with_reducible rfl)
                simp only [o30, Act.put, List.setIfInBounds_toArray, List.set_cons_zero, List.set_cons_succ]
                refine wpAnyH_take (i := 31) (oi := o31) (v := ?_) rfl (by kernel_rfl) (by kernel_rfl) (by kernel_rfl) (fun _ _ _ h => h) (Or.inl ⟨by rfl, ?_⟩) (by assumption) ?_
                rotate_left
                · (intro w hSw; (try dsimp only [o31] at hSw ⊢); go_simp <;> with_reducible rfl)
                simp only [o31, Act.put, List.setIfInBounds_toArray, List.set_cons_zero, List.set_cons_succ]
                refine wpAnyH_take (i := 32) (oi := o32) (v := ?_) rfl (by kernel_rfl) (by kernel_rfl) (by kernel_rfl) (fun _ _ _ h => h) (Or.inl ⟨by rfl, ?_⟩) (by assumption) ?_
                rotate_left
                · (intro w hSw; (try dsimp only [o32] at hSw ⊢); go_simp <;> with_reducible rfl)
                simp only [o32, Act.put, List.setIfInBounds_toArray, List.set_cons_zero, List.set_cons_succ]
                refine wpAnyH_take (i := 33) (oi := o33) (v := ?_) rfl (by kernel_rfl) (by kernel_rfl) (by kernel_rfl) (fun _ _ _ h => h) (Or.inl ⟨by rfl, ?_⟩) (by assumption) ?_
                rotate_left
                · (intro w hSw; (try dsimp only [o33] at hSw ⊢); go_simp <;> with_reducible rfl)
                simp only [o33, Act.put, List.setIfInBounds_toArray, List.set_cons_zero, List.set_cons_succ]
                have hHeld := hHeld3
                clear hHeld3
                refine wpAnyH_done (by kernel_rfl) ?_ _
                go_wp2_with fail
                go_roundw
                case rel => exact ⟨k + 1, by omega, rfl, rfl, rfl, rfl, by go_num, (((((hb5.alloc hb5.size _).alloc (by have := hb5.size; simp; omega) _).alloc (by have := hb5.size; simp; omega) _).alloc (by have := hb5.size; simp; omega) _).drew)⟩
                case measure => simp [intOf]; omega
              exact AllReadyH.nil
            exact AllReadyH.nil
          refine AllReadyH.cons rfl (fun K hK => ?_) ?_
          · go_simp
            refine hK.out _ _ ?_ (fun hHeld2 => ?_)
            · exact ⟨⟨kept _ hHeld.1.1, kept _ hHeld.1.2.1, kept _ hHeld.1.2.2⟩, kept _ hHeld.2⟩
            clear hK K
            refine wpAnyH_with (fun w' : World => (((w'.cell? ⟨V, 0, none⟩ = some (.int .u8 ((X k).toNat : Int)) ∧ w'.cell? ⟨V, 1, none⟩ = some (.int .u8 ((Y k).toNat : Int)) ∧ w'.cell? ⟨V, 2, none⟩ = some (.int .u8 ((Z k).toNat : Int))) ∧ w'.cell? ⟨w5.heap.size, 0, none⟩ = some (.int .u8 ((x3 X Y Z k).toNat : Int))) ∧ w'.cell? ⟨w5.heap.size + 1, 0, none⟩ = some (.int .u8 ((Z k).toNat : Int)))) (fun _ h => h.1) ⟨hHeld2, newc _ _ _ (by simp)⟩ (fun hHeld3 => ?_)
            clear hHeld2
            refine wpAnyH_take (i := 16) (oi := o16) (v := ?_) rfl (by kernel_rfl) (by kernel_rfl) (by kernel_rfl) (fun _ _ _ h => h) (Or.inl ⟨by rfl, ?_⟩) (by assumption) ?_
            rotate_left
            · (intro w hSw; have hcv := conv_at w _ (Z k) hSw.2; (try dsimp only [o16]); go_simp <;> with_reducible rfl)
            simp only [o16, Act.put, List.setIfInBounds_toArray, List.set_cons_zero, List.set_cons_succ]
            refine wpAnyH_take (i := 17) (oi := o17) (v := ?_) rfl (by kernel_rfl) (by kernel_rfl) (by kernel_rfl) (fun _ _ _ h => h) (Or.inl ⟨by rfl, ?_⟩) (by assumption) ?_
            rotate_left
            · (intro w hSw; (try dsimp only [o17] at hSw ⊢); go_simp <;> with_reducible rfl)
            simp only [o17, Act.put, List.setIfInBounds_toArray, List.set_cons_zero, List.set_cons_succ]
            have hHeld := hHeld3
            clear hHeld3
            refine wpAnyH_ready (rs := [3, 9]) (by kernel_rfl) (by simp) ?_
            refine AllReadyH.cons rfl (fun K hK => ?_) ?_
            · go_simp
              refine hK.out _ _ ?_ (fun hHeld2 => ?_)
              · exact ⟨⟨⟨kept _ hHeld.1.1.1, kept _ hHeld.1.1.2.1, kept _ hHeld.1.1.2.2⟩, kept _ hHeld.1.2⟩, kept _ hHeld.2⟩
              clear hK K
              refine wpAnyH_with (fun w' : World => ((((w'.cell? ⟨V, 0, none⟩ = some (.int .u8 ((X k).toNat : Int)) ∧ w'.cell? ⟨V, 1, none⟩ = some (.int .u8 ((Y k).toNat : Int)) ∧ w'.cell? ⟨V, 2, none⟩ = some (.int .u8 ((Z k).toNat : Int))) ∧ w'.cell? ⟨w5.heap.size, 0, none⟩ = some (.int .u8 ((x3 X Y Z k).toNat : Int))) ∧ w'.cell? ⟨w5.heap.size + 1, 0, none⟩ = some (.int .u8 ((Z k).toNat : Int))) ∧ w'.cell? ⟨w5.heap.size + 1 + 1, 0, none⟩ = some (.int .u8 ((X k).toNat : Int)))) (fun _ h => h.1) ⟨hHeld2, newc _ _ _ (by simp)⟩ (fun hHeld3 => ?_)
              clear hHeld2
              refine wpAnyH_take (i := 4) (oi := o4) (v := ?_) rfl (by kernel_rfl) (by kernel_rfl) (by kernel_rfl) (fun _ _ _ h => h) (Or.inl ⟨by rfl, ?_⟩) (by assumption) ?_
              rotate_left
              · (intro w hSw; have hcv := conv_at w _ (X k) hSw.2; (try dsimp only [o4]); go_simp <;> with_reducible rfl)
              simp only [o4, Act.put, List.setIfInBounds_toArray, List.set_cons_zero, List.set_cons_succ]
              refine wpAnyH_take (i := 5) (oi := o5) (v := ?_) rfl (by kernel_rfl) (by kernel_rfl) (by kernel_rfl) (fun _ _ _ h => h) (Or.inl ⟨by rfl, ?_⟩) (by assumption) ?_
              rotate_left
              · (intro w hSw; (try dsimp only [o5] at hSw ⊢); go_simp <;> with_reducible rfl)
              simp only [o5, Act.put, List.setIfInBounds_toArray, List.set_cons_zero, List.set_cons_succ]
              refine wpAnyH_take (i := 30) (oi := o30) (v := ?_) rfl (by kernel_rfl) (by kernel_rfl) (by kernel_rfl) (fun _ _ _ h => h) (Or.inl ⟨by rfl, ?_⟩) (by assumption) ?_
              rotate_left
              · (intro w hSw; (try dsimp only [o30] at hSw ⊢); go_simp <;> with_reducible rfl)
              simp only [o30, Act.put, List.setIfInBounds_toArray, List.set_cons_zero, List.set_cons_succ]
              have hHeld := hHeld3
              clear hHeld3
              refine wpAnyH_ready (rs := [9]) (by kernel_rfl) (by simp) ?_
              refine AllReadyH.cons rfl (fun K hK => ?_) ?_
              · go_simp
                refine hK.out _ _ ?_ (fun hHeld2 => ?_)
                · exact ⟨⟨⟨⟨kept _ hHeld.1.1.1.1, kept _ hHeld.1.1.1.2.1, kept _ hHeld.1.1.1.2.2⟩, kept _ hHeld.1.1.2⟩, kept _ hHeld.1.2⟩, kept _ hHeld.2⟩
                clear hK K
                refine wpAnyH_with (fun w' : World => (((((w'.cell? ⟨V, 0, none⟩ = some (.int .u8 ((X k).toNat : Int)) ∧ w'.cell? ⟨V, 1, none⟩ = some (.int .u8 ((Y k).toNat : Int)) ∧ w'.cell? ⟨V, 2, none⟩ = some (.int .u8 ((Z k).toNat : Int))) ∧ w'.cell? ⟨w5.heap.size, 0, none⟩ = some (.int .u8 ((x3 X Y Z k).toNat : Int))) ∧ w'.cell? ⟨w5.heap.size + 1, 0, none⟩ = some (.int .u8 ((Z k).toNat : Int))) ∧ w'.cell? ⟨w5.heap.size + 1 + 1, 0, none⟩ = some (.int .u8 ((X k).toNat : Int))) ∧ w'.cell? ⟨w5.heap.size + 1 + 1 + 1, 0, none⟩ = some (.int .u8 ((Y k).toNat : Int)))) (fun _ h => h.1) ⟨hHeld2, newc _ _ _ (by simp)⟩ (fun hHeld3 => ?_)
                clear hHeld2
                refine wpAnyH_take (i := 10) (oi := o10) (v := ?_) rfl (by kernel_rfl) (by kernel_rfl) (by kernel_rfl) (fun _ _ _ h => h) (Or.inl ⟨by rfl, ?_⟩) (by assumption) ?_
                rotate_left
                · (intro w hSw; have hcv := conv_at w _ (Y k) hSw.2; (try dsimp only [o10]); go_simp <;> with_reducible rfl)
                simp only [o10, Act.put, List.setIfInBounds_toArray, List.set_cons_zero, List.set_cons_succ]
                refine wpAnyH_take (i := 11) (oi := o11) (v := ?_) rfl (by kernel_rfl) (by kernel_rfl) (by kernel_rfl) (fun _ _ _ h => h) (Or.inl ⟨by rfl, ?_⟩) (by assumption) ?_
                rotate_left
                · (intro w hSw; (try dsimp only [o11] at hSw ⊢); go_simp <;> with_reducible rfl)
                simp only [o11, Act.put, List.setIfInBounds_toArray, List.set_cons_zero, List.set_cons_succ]
                refine wpAnyH_take (i := 31) (oi := o31) (v := ?_) rfl (by kernel_rfl) (by kernel_rfl) (by kernel_rfl) (fun _ _ _ h => h) (Or.inl ⟨by rfl, ?_⟩) (by assumption) ?_
                rotate_left
                · (intro w hSw; (try dsimp only [o31] at hSw ⊢); go_simp <;> with_reducible rfl)
                simp only [o31, Act.put, List.setIfInBounds_toArray, List.set_cons_zero, List.set_cons_succ]
                refine wpAnyH_take (i := 32) (oi := o32) (v := ?_) rfl (by kernel_rfl) (by kernel_rfl) (by kernel_rfl) (fun _ _ _ h => h) (Or.inl ⟨by rfl, ?_⟩) (by assumption) ?_
                rotate_left
                · (intro w hSw; (try dsimp only [o32] at hSw ⊢); go_simp <;> with_reducible rfl)
                simp only [o32, Act.put, List.setIfInBounds_toArray, List.set_cons_zero, List.set_cons_succ]
                refine wpAnyH_take (i := 33) (oi := o33) (v := ?_) rfl (by kernel_rfl) (by kernel_rfl) (by kernel_rfl) (fun _ _ _ h => h) (Or.inl ⟨by rfl, ?_⟩) (by assumption) ?_
                rotate_left
                · (intro w hSw; (try dsimp only [o33] at hSw ⊢); go_simp <;> with_reducible rfl)
                simp only [o33, Act.put, List.setIfInBounds_toArray, List.set_cons_zero, List.set_cons_succ]
                have hHeld := hHeld3
                clear hHeld3
                refine wpAnyH_done (by kernel_rfl) ?_ _
                go_wp2_with fail
                go_roundw
                case rel => exact ⟨k + 1, by omega, rfl, rfl, rfl, rfl, by go_num, (((((hb5.alloc hb5.size _).alloc (by have := hb5.size; simp; omega) _).alloc (by have := hb5.size; simp; omega) _).alloc (by have := hb5.size; simp; omega) _).drew)⟩
                case measure => simp [intOf]; omega
              exact AllReadyH.nil
            refine AllReadyH.cons rfl (fun K hK => ?_) ?_
            · go_simp
              refine hK.out _ _ ?_ (fun hHeld2 => ?_)
              · exact ⟨⟨⟨kept _ hHeld.1.1.1, kept _ hHeld.1.1.2.1, kept _ hHeld.1.1.2.2⟩, kept _ hHeld.1.2⟩, kept _ hHeld.2⟩
              clear hK K
              refine wpAnyH_with (fun w' : World => ((((w'.cell? ⟨V, 0, none⟩ = some (.int .u8 ((X k).toNat : Int)) ∧ w'.cell? ⟨V, 1, none⟩ = some (.int .u8 ((Y k).toNat : Int)) ∧ w'.cell? ⟨V, 2, none⟩ = some (.int .u8 ((Z k).toNat : Int))) ∧ w'.cell? ⟨w5.heap.size, 0, none⟩ = some (.int .u8 ((x3 X Y Z k).toNat : Int))) ∧ w'.cell? ⟨w5.heap.size + 1, 0, none⟩ = some (.int .u8 ((Z k).toNat : Int))) ∧ w'.cell? ⟨w5.heap.size + 1 + 1, 0, none⟩ = some (.int .u8 ((Y k).toNat : Int)))) (fun _ h => h.1) ⟨hHeld2, newc _ _ _ (by simp)⟩ (fun hHeld3 => ?_)
              clear hHeld2
              refine wpAnyH_take (i := 10) (oi := o10) (v := ?_) rfl (by kernel_rfl) (by kernel_rfl) (by kernel_rfl) (fun _ _ _ h => h) (Or.inl ⟨by rfl, ?_⟩) (by assumption) ?_
              rotate_left
              · (intro w hSw; have hcv := conv_at w _ (Y k) hSw.2; (try dsimp only [o10]); go_simp <;> with_reducible rfl)
              simp only [o10, Act.put, List.setIfInBounds_toArray, List.set_cons_zero, List.set_cons_succ]
              refine wpAnyH_take (i := 11) (oi := o11) (v := ?_) rfl (by kernel_rfl) (by kernel_rfl) (by kernel_rfl) (fun _ _ _ h => h) (Or.inl ⟨by rfl, ?_⟩) (by assumption) ?_
              rotate_left
              · (intro w hSw; (try dsimp only [o11] at hSw ⊢); go_simp <;> with_reducible rfl)
              simp only [o11, Act.put, List.setIfInBounds_toArray, List.set_cons_zero, List.set_cons_succ]
              have hHeld := hHeld3
              clear hHeld3
              refine wpAnyH_ready (rs := [3]) (by kernel_rfl) (by simp) ?_
              refine AllReadyH.cons rfl (fun K hK => ?_) ?_
              · go_simp
                refine hK.out _ _ ?_ (fun hHeld2 => ?_)
                · exact ⟨⟨⟨⟨kept _ hHeld.1.1.1.1, kept _ hHeld.1.1.1.2.1, kept _ hHeld.1.1.1.2.2⟩, kept _ hHeld.1.1.2⟩, kept _ hHeld.1.2⟩, kept _ hHeld.2⟩
                clear hK K
                refine wpAnyH_with (fun w' : World => (((((w'.cell? ⟨V, 0, none⟩ = some (.int .u8 ((X k).toNat : Int)) ∧ w'.cell? ⟨V, 1, none⟩ = some (.int .u8 ((Y k).toNat : Int)) ∧ w'.cell? ⟨V, 2, none⟩ = some (.int .u8 ((Z k).toNat : Int))) ∧ w'.cell? ⟨w5.heap.size, 0, none⟩ = some (.int .u8 ((x3 X Y Z k).toNat : Int))) ∧ w'.cell? ⟨w5.heap.size + 1, 0, none⟩ = some (.int .u8 ((Z k).toNat : Int))) ∧ w'.cell? ⟨w5.heap.size + 1 + 1, 0, none⟩ = some (.int .u8 ((Y k).toNat : Int))) ∧ w'.cell? ⟨w5.heap.size + 1 + 1 + 1, 0, none⟩ = some (.int .u8 ((X k).toNat : Int)))) (fun _ h => h.1) ⟨hHeld2, newc _ _ _ (by simp)⟩ (fun hHeld3 => ?_)
                clear hHeld2
                refine wpAnyH_take (i := 4) (oi := o4) (v := ?_) rfl (by kernel_rfl) (by kernel_rfl) (by kernel_rfl) (fun _ _ _ h => h) (Or.inl ⟨by rfl, ?_⟩) (by assumption) ?_
                rotate_left
                · (intro w hSw; have hcv := conv_at w _ (X k) hSw.2; (try dsimp only [o4]); go_simp <;> with_reducible rfl)
                simp only [o4, Act.put, List.setIfInBounds_toArray, List.set_cons_zero, List.set_cons_succ]
                refine wpAnyH_take (i := 5) (oi := o5) (v := ?_) rfl (by kernel_rfl) (by kernel_rfl) (by kernel_rfl) (fun _ _ _ h => h) (Or.inl ⟨by rfl, ?_⟩) (by assumption) ?_
                rotate_left
                · (intro w hSw; (try dsimp only [o5] at hSw ⊢); go_simp <;> with_reducible rfl)
                simp only [o5, Act.put, List.setIfInBounds_toArray, List.set_cons_zero, List.set_cons_succ]
                refine wpAnyH_take (i := 30) (oi := o30) (v := ?_) rfl (by kernel_rfl) (by kernel_rfl) (by kernel_rfl) (fun _ _ _ h => h) (Or.inl ⟨by rfl, ?_⟩) (by assumption) ?_
                rotate_left
                · (intro w hSw; (try dsimp only [o30] at hSw ⊢); go_simp <;> with_reducible rfl)
                simp only [o30, Act.put, List.setIfInBounds_toArray, List.set_cons_zero, List.set_cons_succ]
                refine wpAnyH_take (i := 31) (oi := o31) (v := ?_) rfl (by kernel_rfl) (by kernel_rfl) (by kernel_rfl) (fun _ _ _ h => h) (Or.inl ⟨by rfl, ?_⟩) (by assumption) ?_
                rotate_left
                · (intro w hSw; (try dsimp only [o31] at hSw ⊢); go_simp <;> with_reducible rfl)
                simp only [o31, Act.put, List.setIfInBounds_toArray, List.set_cons_zero, List.set_cons_succ]
                refine wpAnyH_take (i := 32) (oi := o32) (v := ?_) rfl (by kernel_rfl) (by kernel_rfl) (by kernel_rfl) (fun _ _ _ h => h) (Or.inl ⟨by rfl, ?_⟩) (by assumption) ?_
                rotate_left
                · (intro w hSw; (try dsimp only [o32] at hSw ⊢); go_simp <;> with_reducible rfl)
                simp only [o32, Act.put, List.setIfInBounds_toArray, List.set_cons_zero, List.set_cons_succ]
                refine wpAnyH_take (i := 33) (oi := o33) (v := ?_) rfl (by kernel_rfl) (by kernel_rfl) (by kernel_rfl) (fun _ _ _ h => h) (Or.inl ⟨by rfl, ?_⟩) (by assumption) ?_
                rotate_left
                · (intro w hSw; (try dsimp only [o33] at hSw ⊢); go_simp <;> with_reducible rfl)
                simp only [o33, Act.put, List.setIfInBounds_toArray, List.set_cons_zero, List.set_cons_succ]
                have hHeld := hHeld3
                clear hHeld3
                refine wpAnyH_done (by kernel_rfl) ?_ _
                go_wp2_with fail
                go_roundw
                case rel => exact ⟨k + 1, by omega, rfl, rfl, rfl, rfl, by go_num, (((((hb5.alloc hb5.size _).alloc (by have := hb5.size; simp; omega) _).alloc (by have := hb5.size; simp; omega) _).alloc (by have := hb5.size; simp; omega) _).drew)⟩
                case measure => simp [intOf]; omega
              exact AllReadyH.nil
            exact AllReadyH.nil
          exact AllReadyH.nil
        exact AllReadyH.nil
      · obtain rfl : k = m := by omega
        obtain ⟨A0, hA0⟩ : ∃ A0, acc X k = A0 := ⟨_, rfl⟩
        obtain ⟨A1, hA1⟩ : ∃ A1, acc Y k = A1 := ⟨_, rfl⟩
        obtain ⟨A2, hA2⟩ : ∃ A2, acc Z k = A2 := ⟨_, rfl⟩
        obtain ⟨A3, hA3⟩ : ∃ A3, acc (x3 X Y Z) k = A3 := ⟨_, rfl⟩
        have hz0 : A0.size ≤ 60 := by rw [← hA0, acc_size]; exact hm60
        have hz1 : A1.size ≤ 60 := by rw [← hA1, acc_size]; exact hm60
        have hz2 : A2.size ≤ 60 := by rw [← hA2, acc_size]; exact hm60
        have hz3 : A3.size ≤ 60 := by rw [← hA3, acc_size]; exact hm60
        have hs3 := sum_x3 X Y Z k
        rw [hA0, hA1, hA2, hA3] at hs3
        rw [hA0, hA1, hA2, hA3]
        have hx1 := xor_int (sum A0.data.toList) (sum A1.data.toList) _ _ rfl rfl
        have hx2 : bits .xor .u32 ((sum A0.data.toList ^^^ sum A1.data.toList).toNat : Int) ((sum A2.data.toList).toNat : Int) = ((sum A3.data.toList).toNat : Int) := by
          rw [xor_int (sum A0.data.toList ^^^ sum A1.data.toList) (sum A2.data.toList) _ _ rfl rfl, hs3]
        clear hs3 hA0 hA1 hA2 hA3
        go_wp2_with fail
        refine (make_any _).mono ?_; rintro e w2 ⟨rfl, hb2⟩
        go_wp2_with (refine wpList_store_row rfl 26 _ _ rfl _ table rfl rfl 26 zeros (heap_alloc_last _ _) (by rw [table_size]; exact tableInfo) (by rw [table_size, zeros_size]) table_cells ?_; rw [World.setRow_alloc_new])
        have hT := Lib.hid (tab_new w2 26)
        have hb3 : Below wc.heap.size wc (w2.alloc (.cells table 26)) := (hb.trans (hb2.mono hb.size)).alloc (Nat.le_trans hb.size hb2.size) _
        have hs3 := hb3.size
        have hsw := hb1.size
        have h12 := Lib.hid (show w2.heap.size + 1 = (w2.alloc (.cells table 26)).heap.size by simp)
        clear hb2
        generalize w2.heap.size = B at *
        generalize w2.alloc (.cells table 26) = w3 at *
        rw [h12.out]
        refine (sum_one B A0 w3 (by exact hT.out) (by omega)).mono ?_
        rintro e w4 ⟨rfl, hb4⟩
        go_wp2_with fail
        refine (sum_one B A1 w4 (by exact hT.out.below hb4) (by omega)).mono ?_
        rintro e w5 ⟨rfl, hb5⟩
        go_wp2_with fail
        refine (sum_one B A2 w5 (by exact (hT.out.below hb4).below hb5) (by omega)).mono ?_
        rintro e w6 ⟨rfl, hb6⟩
        go_wp2_with fail
        refine (sum_one B A3 w6 (by exact ((hT.out.below hb4).below hb5).below hb6) (by omega)).mono ?_
        rintro e w7 ⟨rfl, hb7⟩
        go_wp2_with fail
        refine (sum_one B A0 w7 (by exact (((hT.out.below hb4).below hb5).below hb6).below hb7) (by omega)).mono ?_
        rintro e w8 ⟨rfl, hb8⟩
        go_wp2_with fail
        refine (rsum_any A0 _ (by omega)).mono ?_
        rintro e w9 ⟨rfl, rfl⟩
        go_wp2_with fail
        go_ret
        have s4 := hb4.size
        have s5 := hb5.size
        have s6 := hb6.size
        have s7 := hb7.size
        have ht : Below w3.heap.size w3 w8 := hb4.trans ((hb5.mono s4).trans ((hb6.mono (by omega)).trans ((hb7.mono (by omega)).trans (hb8.mono (by omega)))))
        exact ⟨rfl, hb1.trans ((hb3.mono hsw).trans (ht.mono (Nat.le_trans hsw hs3)))⟩

theorem own : ownKnob Try.prog.godebug = none := by kernel_rfl
theorem laidOut : laidOutB Try.prog = true := by kernel_rfl

set_option maxRecDepth 100000 in
theorem lifted (os : Os) (started : os.Started) (H : Type) (enc : TypeId × Value → H) :
    ReturnsInHanded {} Try.checked os 8 .any (Rows.crcXorsSpec.pre6 enc Try.prog Try.f8 Rows.crcXorsRow.domain false) (Rows.crcXorsSpec.post enc Try.prog Try.f8 false true false false) := by
  refine Base.law_lifted (C := Try.checked) own started (by kernel_rfl) Try.func8 laidOut (by kernel_rfl) rfl Try.underlying4 rfl ?_
    (ChangeSpec.witness6 (enc := enc) (C := Try.checked) false ⟨#[], #[.slice none 0 0], []⟩ 8 (by kernel_rfl) (by kernel_rfl) (by kernel_rfl) (by kernel_rfl)) ?_
  · intro ds h
    match ds, h with
    | [_d0], _ => exact ⟨rfl, rfl, rfl⟩
  · intro W base args ds before hval0 hA0 hlt hsz
    have hval : ∀ (j : Nat) t v, Try.f8.params[j]? = some t → args[j]? = some v → Value.okWide Try.prog W .any base t v := hval0
    have hA : DataW.TrodAll enc Try.prog W 0 (fun _ => true) true Try.f8.params.toList args.toList ds before := hA0
    clear hval0 hA0
    rw [Try.params8] at hA hval hsz
    obtain ⟨v0, vs0, d0, ds0, p0, q0, hargs, rfl, rfl, h0, r0⟩ := trodAll_cons hA
    obtain ⟨rfl, rfl, rfl⟩ := trodAll_nil r0
    obtain rfl : args = #[v0] := by cases args; simp_all
    obtain ⟨n0, X0, Y0, Z0, w0⟩ := Base.open_triples Try.underlying40 Try.underlying41 Try.underlying5 (by kernel_rfl) (by kernel_rfl) (hval 0 40 v0 rfl rfl) h0 (fun x hx => hlt x (by simp [hx]))
    exact walk W v0 n0 X0 Y0 Z0 w0

theorem over : Rows.crcXorsRow.holds Try.pinned (OpenSpec.ofChange Rows.crcXorsSpec) :=
  OpenClaim.holds_of_wide 8 Try.f8 rfl rfl rfl rfl rfl rfl rfl ⟨rfl, rfl, rfl, rfl, rfl⟩ rfl rfl rfl rfl rfl (by kernel_rfl) Try.func8 (by kernel_rfl)
    (of_decide_eq_true (by kernel_rfl)) (by unfold Func.isWrapper; first | (rw [if_pos (by decide +kernel)]; kernel_rfl) | (rw [if_neg (by decide +kernel)]; exact ⟨rfl, rfl⟩))
    (fun os started H enc _ => lifted os started H enc)

theorem proved : Rows.CrcXorsSaid :=
  over
#print axioms proved
end Go.Proofs.Ytfcdhfdjnfolkaa.crcXors
