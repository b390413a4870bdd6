/-
  What comes in, read deep: integers, bools, strings, slices and structs of these, by the shape of their type.
-/
import Derived.Test.YtkphompjahcjiaaDoorBase
import Derived.Deep.Slices
namespace Go.Proofs.YtkphompjahcjiaaDoor.Base
open Go.ChangeShapes Go.WideShapes Go.ChangeAt Go.RowKit

inductive Shp where
  | int (k : IntKind)
  | bool
  | str
  | slice (e : Shp)
  | struct (fs : List Shp)

inductive Dat where
  | int (z : Int)
  | bool (b : Bool)
  | str (s : ByteArray)
  | slice (l : List Dat)
  | struct (l : List Dat)

mutual
def Shp.size : Shp → Nat
  | .struct fs => Shp.sizes fs
  | .int _ => 1
  | .bool => 1
  | .str => 1
  | .slice _ => 1
def Shp.sizes : List Shp → Nat
  | [] => 0
  | s :: r => s.size + Shp.sizes r
end

mutual
def Shp.ok (P : Program) : Shp → TypeId → Bool
  | .int k, t => match P.underlying t with
    | some (.int k') => decide (k' = k)
    | _ => false
  | .bool, t => match P.underlying t with
    | some .bool => true
    | _ => false
  | .str, t => match P.underlying t with
    | some .string => true
    | _ => false
  | .slice e, t => match P.underlying t with
    | some (.slice e') => Shp.ok P e e' && decide (P.cellsOf e' = e.size) && decide (0 < e.size) && decide (1 ≤ P.bytesOf e')
    | _ => false
  | .struct fs, t => match P.underlying t with
    | some (.struct fields) => decide (P.cellsOf t = Shp.sizes fs) && Shp.okEach P fs fields.toList 0
    | _ => false
def Shp.okEach (P : Program) : List Shp → List Field → Nat → Bool
  | [], [], _ => true
  | s :: r, f :: fr, off => decide (f.offset = off) && decide (P.cellsOf f.type = s.size) && Shp.ok P s f.type && Shp.okEach P r fr (off + s.size)
  | _, _, _ => false
end

mutual
def Rd (W : World) : Shp → Dat → List Value → Prop
  | .int k, .int z, cs => cs = [.int k z] ∧ (Lit.int k z).wf = true
  | .bool, .bool b, cs => cs = [.bool b]
  | .str, .str s, cs => cs = [.string s] ∧ s.size ≤ 140737488351232
  | .slice e, .slice l, cs => ∃ a cap, cs = [.slice a l.length cap] ∧ l.length ≤ 140737488351232 ∧ (l = [] ∨ ∃ b off, a = some ⟨b, off, none⟩ ∧ b < W.heap.size ∧
      ∀ i, i < l.length → ∃ es, es.length = e.size ∧ (∀ j, j < e.size → W.cell? ⟨b, off + i * e.size + j, none⟩ = es[j]?) ∧ Rd W e (l.getD i (.bool false)) es)
  | .struct fs, .struct l, cs => RdAll W fs l cs
  | _, _, _ => False
def RdAll (W : World) : List Shp → List Dat → List Value → Prop
  | [], [], cs => cs = []
  | s :: ss, d :: ds, cs => ∃ c1 c2, cs = c1 ++ c2 ∧ c1.length = s.size ∧ Rd W s d c1 ∧ RdAll W ss ds c2
  | _, _, _ => False
end

theorem cells?_each {w : World} {base : Nat} {a : Addr} : ∀ {n : Nat} {cs : List Value}, w.cells? base a n = some cs → cs.length = n ∧ ∀ j, j < n → w.cell? (a.add j) = cs[j]? := by
  intro n cs h
  have hs := World.cells?_some h
  exact hs.2
theorem weightsAll_mem {H : Type} {P : Program} {e : TypeId} : ∀ {l : List (DataW H)} {d : DataW H} {n : Nat}, d ∈ l → n ∈ d.weights P e → n ∈ DataW.weightsAll P e l
  | x :: l, d, n, h, hn => by
    simp only [DataW.weightsAll, List.mem_append]
    rcases List.mem_cons.1 h with rfl | h
    · exact Or.inl hn
    · exact Or.inr (weightsAll_mem h hn)

mutual
theorem rd_of_trod {H : Type} {enc : TypeId × Value → H} {P : Program} {W : World} : ∀ (s : Shp) (t : TypeId) (fuel : Nat) (cs : List Value) (d : DataW H) (ps : List MemPlace), s.ok P t = true →
    DataW.trod enc P W 0 (fun _ => true) true fuel t cs = some (d, ps) → (∀ x ∈ ps, x.block < W.heap.size) → (∀ n ∈ d.weights P t, n ≤ reachBytes) → ∃ x, Rd W s x cs
  | .int k, t, fuel, cs, d, ps, hk, h, hlt, hw => by
    unfold Shp.ok at hk
    split at hk
    · rename_i k' ht
      have e := of_decide_eq_true hk
      subst e
      obtain ⟨z, e0, _, w0⟩ := DataW.trod_int ht h
      exact ⟨.int z, by unfold Rd; exact ⟨e0, w0⟩⟩
    · cases hk
  | .bool, t, fuel, cs, d, ps, hk, h, hlt, hw => by
    unfold Shp.ok at hk
    split at hk
    · rename_i ht
      obtain ⟨z, e0, _⟩ := DataW.trod_bool ht h
      exact ⟨.bool z, by unfold Rd; exact e0⟩
    · cases hk
  | .str, t, fuel, cs, d, ps, hk, h, hlt, hw => by
    unfold Shp.ok at hk
    split at hk
    · rename_i ht
      obtain ⟨z, e0, e1, _⟩ := DataW.trod_string ht h
      simp only [Prod.mk.injEq] at e1
      obtain ⟨rfl, rfl⟩ := e1
      refine ⟨.str z, ?_⟩
      unfold Rd
      refine ⟨e0, ?_⟩
      have := hw z.data.toList.length (by simp [DataW.weights])
      simpa [reachBytes] using this
    · cases hk
  | .slice e, t, fuel, cs, d, ps, hk, h, hlt, hw => by
    unfold Shp.ok at hk
    split at hk
    · rename_i e' ht
      simp only [Bool.and_eq_true, decide_eq_true_eq] at hk
      obtain ⟨⟨⟨hk1, hk2⟩, hk3⟩, hk4⟩ := hk
      rcases Go.Deep.open_slice ht h with ⟨rfl, _⟩ | ⟨a, len, cap, m, n, D, Pl, rfl, _, hl, hm, hmm, hx, hi⟩
      · exact ⟨.slice [], by unfold Rd; exact ⟨none, 0, rfl, by simp, .inl rfl⟩⟩
      · simp only [Prod.mk.injEq] at hx
        obtain ⟨rfl, rfl⟩ := hx
        simp only [if_true] at hmm
        subst hmm
        have each : ∀ i, i < m → ∃ x es, es.length = e.size ∧ (∀ j, j < e.size → W.cell? (a.add (i * e.size + j)) = es[j]?) ∧ Rd W e x es := by
          intro i him
          obtain ⟨es, h0, h1⟩ := hi i him
          obtain ⟨x, hx⟩ := rd_of_trod e e' n es (D i) (Pl i) hk1 h1 (fun y hy => hlt y (List.mem_append_right _ (List.mem_flatMap.2 ⟨i, List.mem_range.2 him, hy⟩))) (fun w hw' => hw w (by
            simp only [DataW.weights, ht]
            refine List.mem_cons_of_mem _ ?_
            by_cases hil : i < len
            · exact List.mem_append_left _ (weightsAll_mem (List.mem_map.2 ⟨i, List.mem_range.2 hil, rfl⟩) hw')
            · exact List.mem_append_right _ (weightsAll_mem (List.mem_map.2 ⟨i - len, List.mem_range.2 (by omega), by rw [show len + (i - len) = i by omega]⟩) hw')))
          obtain ⟨hl0, hc0⟩ := cells?_each h0
          refine ⟨x, es, by rw [hl0, hk2], fun j hj => ?_, hx⟩
          have := hc0 j (by rw [hk2]; exact hj)
          rw [hk2, Addr.add_add] at this
          exact this
        have hex : ∃ F : Nat → Dat, ∀ i, i < m → ∃ es, es.length = e.size ∧ (∀ j, j < e.size → W.cell? (a.add (i * e.size + j)) = es[j]?) ∧ Rd W e (F i) es := by
          refine ⟨fun i => if h : i < m then Classical.choose (each i h) else .bool false, fun i hi' => ?_⟩
          simp only [dif_pos hi']
          exact Classical.choose_spec (each i hi')
        obtain ⟨F, hF⟩ := hex
        refine ⟨.slice ((List.range len).map F), ?_⟩
        unfold Rd
        refine ⟨some a, m, by simp, ?_, ?_⟩
        · have h1 := hw ((((List.range len).map D).length + ((List.range (m - len)).map fun j => D (len + j)).length) * P.bytesOf e') (by simp only [DataW.weights, ht]; exact List.mem_cons_self ..)
          simp only [List.length_map, List.length_range, reachBytes] at h1 ⊢
          have h2 : len * 1 ≤ (len + (m - len)) * P.bytesOf e' := Nat.mul_le_mul (by omega) hk4
          omega
        by_cases hn : len = 0
        · left; subst hn; rfl
        · right
          obtain ⟨b, off, spot⟩ := a
          have hspot : spot = none := by
            obtain ⟨es, h1, h2, _⟩ := hF 0 (by omega)
            have h3 := h2 0 (by omega)
            rw [List.getElem?_eq_getElem (by omega)] at h3
            simpa [Addr.add] using World.cell?_spot h3
          subst hspot
          refine ⟨b, off, rfl, hlt (.cell b off) (List.mem_append_left _ (MemPlace.mem_row.2 ⟨0, Nat.mul_pos (by omega) (by omega), by simp⟩)), fun i hi' => ?_⟩
          have hi'' : i < len := by simpa using hi'
          obtain ⟨es, h1, h2, h3⟩ := hF i (by omega)
          have hg : ((List.range len).map F).getD i (.bool false) = F i := by simp [List.getD, hi'']
          rw [hg]
          refine ⟨es, h1, fun j hj => ?_, h3⟩
          have := h2 j hj
          rw [add_plain, ← Nat.add_assoc] at this
          exact this
    · cases hk
  | .struct fs, t, fuel, cs, d, ps, hk, h, hlt, hw => by
    unfold Shp.ok at hk
    split at hk
    · rename_i fields ht
      simp only [Bool.and_eq_true, decide_eq_true_eq] at hk
      obtain ⟨hk1, hk2⟩ := hk
      obtain ⟨xs, n, _, hx, hl, hxl, hf⟩ := DataW.trod_struct ht h
      simp only [Prod.mk.injEq] at hx
      obtain ⟨rfl, rfl⟩ := hx
      obtain ⟨l, hl'⟩ := rdAll_of_trod fs fields.toList 0 n cs xs hk2 (by omega) (by simpa using hxl) (fun i f hi => hf i f (by simpa using hi)) hlt (by simpa [DataW.weights, ht] using hw)
      exact ⟨.struct l, by unfold Rd; simpa using hl'⟩
    · cases hk
theorem rdAll_of_trod {H : Type} {enc : TypeId × Value → H} {P : Program} {W : World} : ∀ (ss : List Shp) (fields : List Field) (off n : Nat) (cs : List Value) (xs : List (DataW H × List MemPlace)), Shp.okEach P ss fields off = true →
    cs.length = off + Shp.sizes ss → xs.length = fields.length → (∀ (i : Nat) (f : Field), fields[i]? = some f → DataW.trod enc P W 0 (fun _ => true) true n f.type ((cs.drop f.offset).take (P.cellsOf f.type)) = xs[i]?) →
    (∀ x ∈ xs.flatMap (·.2), x.block < W.heap.size) → (∀ m ∈ DataW.weightsEach P (fields.map (·.type)) (xs.map (·.1)), m ≤ reachBytes) → ∃ l, RdAll W ss l (cs.drop off)
  | [], [], off, n, cs, xs, _, hl, _, _, _, _ => ⟨[], by unfold RdAll; exact List.drop_of_length_le (by simp [Shp.sizes] at hl; omega)⟩
  | [], _ :: _, _, _, _, _, h, _, _, _, _, _ => by simp [Shp.okEach] at h
  | _ :: _, [], _, _, _, _, h, _, _, _, _, _ => by simp [Shp.okEach] at h
  | s :: ss, f :: fr, off, n, cs, xs, h, hl, hxl, hf, hlt, hw => by
    match xs, hxl with
    | x :: xr, hxl =>
      simp only [Shp.okEach, Bool.and_eq_true, decide_eq_true_eq] at h
      obtain ⟨⟨⟨h1, h2⟩, h3⟩, h4⟩ := h
      simp only [Shp.sizes] at hl
      have h0 := hf 0 f rfl
      simp only [List.getElem?_cons_zero] at h0
      obtain ⟨d, hd⟩ := rd_of_trod s f.type n _ x.1 x.2 h3 h0 (fun y hy => hlt y (by simp [hy])) (fun m hm => hw m (by simp [DataW.weightsEach, hm]))
      obtain ⟨l, hl'⟩ := rdAll_of_trod ss fr (off + s.size) n cs xr h4 (by omega) (by simpa using hxl) (fun i f hi => by simpa using hf (i + 1) f (by simpa using hi)) (fun y hy => hlt y (by simp only [List.flatMap_cons, List.mem_append]; exact Or.inr hy))
        (fun m hm => hw m (by simp only [List.map_cons, DataW.weightsEach, List.mem_append]; exact Or.inr hm))
      refine ⟨d :: l, ?_⟩
      unfold RdAll
      refine ⟨(cs.drop off).take s.size, cs.drop (off + s.size), ?_, ?_, ?_, hl'⟩
      · rw [← List.drop_drop, List.take_append_drop]
      · rw [List.length_take, List.length_drop]; omega
      · rw [h1, h2] at hd; exact hd
end

/-- the value itself -/
def RdV (W : World) (s : Shp) (x : Dat) (v : Value) : Prop := match s with
  | .struct _ => ∃ cs : List Value, v = .agg cs.toArray ∧ Rd W s x cs
  | _ => Rd W s x [v]

theorem open_shape {H : Type} {enc : TypeId × Value → H} {P : Program} {W : World} {base : Nat} {s : Shp} {ts : List TypeId} {ds : List (DataW H)} {j : Nat} {t : TypeId} {v : Value} {d : DataW H} {ps : List MemPlace}
    (hk : s.ok P t = true) (hval : Value.okWide P W .any base t v) (h : DataW.Trod enc P W 0 (fun _ => true) true t v d ps) (hlt : ∀ x ∈ ps, x.block < W.heap.size) (hsz : (DataW.weightsEach P ts ds).all (· ≤ reachBytes) = true) (ht : ts[j]? = some t) (hd : ds[j]? = some d) : ∃ x, RdV W s x v := by
  obtain ⟨fuel, hf⟩ := h
  obtain ⟨x, hx⟩ := rd_of_trod s t fuel _ d ps hk hf hlt (fun n hn => by
    have := List.all_eq_true.1 hsz _ (DataW.weights_mem_each ht hd n hn)
    simpa using this)
  refine ⟨x, ?_⟩
  unfold RdV
  cases s with
  | struct fs =>
    unfold Shp.ok at hk
    split at hk
    · rename_i fields hu
      obtain ⟨cs, rfl, _⟩ := okWide_struct hu hval
      exact ⟨cs.toList, by simp, by simpa [Value.cells] using hx⟩
    · cases hk
  | int k =>
    unfold Shp.ok at hk
    split at hk
    · rename_i k' hu
      obtain ⟨z, e0, _⟩ := DataW.trod_int hu hf
      have hv := okWide_int hu hval
      obtain ⟨z, rfl⟩ := hv
      simpa [Value.cells] using hx
    · cases hk
  | bool =>
    unfold Shp.ok at hk
    split at hk
    · rename_i hu
      obtain ⟨z, rfl⟩ := okWide_bool hu hval
      simpa [Value.cells] using hx
    · cases hk
  | str =>
    unfold Shp.ok at hk
    split at hk
    · rename_i hu
      obtain ⟨z, rfl⟩ := okWide_string hu hval
      simpa [Value.cells] using hx
    · cases hk
  | slice e =>
    unfold Shp.ok at hk
    split at hk
    · rename_i e' hu
      obtain ⟨a, l, c, rfl⟩ := okWide_slice hu hval
      simpa [Value.cells] using hx
    · cases hk

theorem rd_int {W : World} {k : IntKind} {x : Dat} {cs : List Value} (h : Rd W (.int k) x cs) : ∃ z, x = .int z ∧ cs = [.int k z] ∧ (Lit.int k z).wf = true := by
  cases x <;> simp only [Rd] at h
  exact ⟨_, rfl, h.1, h.2⟩
theorem rd_bool {W : World} {x : Dat} {cs : List Value} (h : Rd W .bool x cs) : ∃ b, x = .bool b ∧ cs = [.bool b] := by
  cases x <;> simp only [Rd] at h
  exact ⟨_, rfl, h⟩
theorem rd_str {W : World} {x : Dat} {cs : List Value} (h : Rd W .str x cs) : ∃ s, x = .str s ∧ cs = [.string s] ∧ s.size ≤ 140737488351232 := by
  cases x <;> simp only [Rd] at h
  exact ⟨_, rfl, h.1, h.2⟩
theorem rd_slice {W : World} {e : Shp} {x : Dat} {cs : List Value} (h : Rd W (.slice e) x cs) : ∃ l a cap, x = .slice l ∧ cs = [.slice a l.length cap] ∧ l.length ≤ 140737488351232 ∧ (l = [] ∨ ∃ b off, a = some ⟨b, off, none⟩ ∧ b < W.heap.size ∧
      ∀ i, i < l.length → ∃ es, es.length = e.size ∧ (∀ j, j < e.size → W.cell? ⟨b, off + i * e.size + j, none⟩ = es[j]?) ∧ Rd W e (l.getD i (.bool false)) es) := by
  cases x <;> simp only [Rd] at h
  obtain ⟨a, cap, h1, h2, h3⟩ := h
  exact ⟨_, a, cap, rfl, h1, h2, h3⟩
theorem rd_struct {W : World} {fs : List Shp} {x : Dat} {cs : List Value} (h : Rd W (.struct fs) x cs) : ∃ l, x = .struct l ∧ RdAll W fs l cs := by
  cases x <;> simp only [Rd] at h
  exact ⟨_, rfl, h⟩
theorem rdAll_cons {W : World} {s : Shp} {ss : List Shp} {ds : List Dat} {cs : List Value} (h : RdAll W (s :: ss) ds cs) : ∃ d r c1 c2, ds = d :: r ∧ cs = c1 ++ c2 ∧ Rd W s d c1 ∧ RdAll W ss r c2 := by
  cases ds <;> simp only [RdAll] at h
  obtain ⟨c1, c2, h1, _, h3, h4⟩ := h
  exact ⟨_, _, c1, c2, rfl, h1, h3, h4⟩
theorem rdAll_nil {W : World} {ds : List Dat} {cs : List Value} (h : RdAll W [] ds cs) : ds = [] ∧ cs = [] := by
  cases ds <;> simp only [RdAll] at h
  exact ⟨rfl, h⟩
end Go.Proofs.YtkphompjahcjiaaDoor.Base
