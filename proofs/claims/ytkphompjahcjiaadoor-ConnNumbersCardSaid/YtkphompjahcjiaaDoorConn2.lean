/-
  A connection: a signal and a unit more.
-/
import Derived.Test.YtkphompjahcjiaaDoorConn1
namespace Go.Proofs.YtkphompjahcjiaaDoor.Conn
open Go.RowKit

theorem Apart.swap {u v : Value} (h : Apart u v) : Apart v u := by
  rcases h with h | h
  · cases hv : v.ownBlock with
    | none => exact .inl hv
    | some k => exact .inr (by rw [h, hv]; simp)
  · exact .inr fun e => h e.symm
theorem apart_new {w : World} {base size n : Nat} {u v v' : Value} {e : TypeId} {xs : List Value} (h : Apart u v) (hv : w.ownsRow base e size v n xs) (ha : v'.ownBlock = u.ownBlock ∨ v'.ownBlock = some w.heap.size) : Apart v' v := by
  rcases ha with ha | ha
  · rcases h with h | h
    · exact .inl (by rw [ha, h])
    · exact .inr (by rw [ha]; exact h)
  · refine .inr fun e => ?_
    rw [ha] at e
    have := (hv.lt _ e.symm).2
    omega
theorem news_at {w : World} {τ : TypeId} (L : List Value) (arr : Array Value) (ha : arr = L.toArray) (gg : Nat) (hg : gg = w.heap.size) : ∀ j u, L[j]? = some u → (w.alloc (.cells arr τ)).cell? ((⟨gg, 0, none⟩ : Addr).add j) = some u := by
  subst ha; subst hg
  intro j u hu
  rw [Addr.add_lit, cell_of_row _ _ _ _ _ _ (heap_alloc_new w (.cells L.toArray τ)), Nat.zero_add, List.getElem?_toArray]
  exact hu
section
variable {X : Nat → Prop} {w0 w W w5 : World} {g m : Nat} {c : C} {o : O} {vs vu v5 : Value}
theorem grown_block {row : Option Nat} (hg : W.grownBy w5 row) {k : Nat} (hk : k < W.heap.size) (hn : some k ≠ row) : w5.heap[k]? = W.heap[k]? := hg.block k hk hn
/-- behind an append onto the signals -/
theorem Make.app_s (h : Make X w0 w g m c o) (hb : Below w.heap.size w W) (hm : w.heap[m]? = some (.cells #[.pointer (some ⟨g, 0, none⟩), vs, vu, .bool o.begins, .bool o.ends, .int .u32 o.ms, .int .i64 o.timer] 100 (0, 0)))
    (hs : OwnS w (m + 1) vs o.sigs) (hu : OwnU w (m + 1) vu o.units) (ha : Apart vs vu) (hxs : ∀ k, vs.ownBlock = some k → ¬ X k) (hxu : ∀ k, vu.ownBlock = some k → ¬ X k) (s : S) (h5 : OwnS w5 (m + 1) v5 (o.sigs ++ [s])) (hg : W.grownBy w5 vs.ownBlock) (hat : v5.ownBlock = vs.ownBlock ∨ v5.ownBlock = some W.heap.size) (hl : o.sigs.length ≤ 999) :
    w5.heap[m]? = some (.cells #[.pointer (some ⟨g, 0, none⟩), vs, vu, .bool o.begins, .bool o.ends, .int .u32 o.ms, .int .i64 o.timer] 100 (0, 0)) ∧ Make X w0 (w5.setCell ⟨m, 1, none⟩ v5) g m c { o with sigs := o.sigs ++ [s] } := by
  have hgm := h.gm
  have hmW : m < W.heap.size := Nat.lt_of_lt_of_le h.mlt hb.size
  have hne : ∀ k, vs.ownBlock = some k → m + 1 ≤ k := fun k hk => (World.ownsRow.lt hs k hk).1
  have hm5 : w5.heap[m]? = _ := (hg.block m hmW (fun e => by have := hne m e.symm; omega)).trans ((hb.block m h.mlt).trans hm)
  have hg5 : w5.heap[g]? = _ := (hg.block g (Nat.lt_of_lt_of_le h.glt hb.size) (fun e => hxs g e.symm h.xg)).trans ((hb.block g h.glt).trans h.conn)
  have hsW := Own.own_below hs hb
  have huW := Own.own_below hu hb
  have hu5 : OwnU w5 (m + 1) vu o.units := World.ownsRow.kept huW hg ha.swap
  refine ⟨hm5, ⟨(heap_setCell_other _ _ _ _ (show g ≠ m from hgm)).trans hg5, ⟨v5, vu, by rw [Go.Joins.block_setCell hm5]; rfl, row_set h5 (by omega), row_set hu5 (by omega), apart_new ha huW hat, fun k hk hx => (by
    rcases hat with e | e
    · exact hxs k (by rw [← e]; exact hk) hx
    · rw [e] at hk; have := h.xlt' k hx; have := hb.size; simp at hk; omega), hxu⟩, ?_, h.xlt, h.xg, h.xm, by simp; have := h.few; omega⟩⟩
  exact ((h.only.trans (.of_below hb h.xlt')).trans ⟨hg.os, hg.tape, hg.output, hg.size, fun k hk _ => hg.block k (Nat.lt_of_lt_of_le (h.xlt' k hk) hb.size) (fun e => hxs k e.symm hk)⟩).other h.xm _ _
/-- behind an append onto the units -/
theorem Make.app_u (h : Make X w0 w g m c o) (hb : Below w.heap.size w W) (hm : w.heap[m]? = some (.cells #[.pointer (some ⟨g, 0, none⟩), vs, vu, .bool o.begins, .bool o.ends, .int .u32 o.ms, .int .i64 o.timer] 100 (0, 0)))
    (hs : OwnS w (m + 1) vs o.sigs) (hu : OwnU w (m + 1) vu o.units) (ha : Apart vs vu) (hxs : ∀ k, vs.ownBlock = some k → ¬ X k) (hxu : ∀ k, vu.ownBlock = some k → ¬ X k) (s : U) (h5 : OwnU w5 (m + 1) v5 (o.units ++ [s])) (hg : W.grownBy w5 vu.ownBlock) (hat : v5.ownBlock = vu.ownBlock ∨ v5.ownBlock = some W.heap.size) (hl : o.units.length ≤ 999) :
    w5.heap[m]? = some (.cells #[.pointer (some ⟨g, 0, none⟩), vs, vu, .bool o.begins, .bool o.ends, .int .u32 o.ms, .int .i64 o.timer] 100 (0, 0)) ∧ Make X w0 (w5.setCell ⟨m, 2, none⟩ v5) g m c { o with units := o.units ++ [s] } := by
  have hgm := h.gm
  have hmW : m < W.heap.size := Nat.lt_of_lt_of_le h.mlt hb.size
  have hne : ∀ k, vu.ownBlock = some k → m + 1 ≤ k := fun k hk => (World.ownsRow.lt hu k hk).1
  have hm5 : w5.heap[m]? = _ := (hg.block m hmW (fun e => by have := hne m e.symm; omega)).trans ((hb.block m h.mlt).trans hm)
  have hg5 : w5.heap[g]? = _ := (hg.block g (Nat.lt_of_lt_of_le h.glt hb.size) (fun e => hxu g e.symm h.xg)).trans ((hb.block g h.glt).trans h.conn)
  have hsW := Own.own_below hs hb
  have huW := Own.own_below hu hb
  have hs5 : OwnS w5 (m + 1) vs o.sigs := World.ownsRow.kept hsW hg ha
  refine ⟨hm5, ⟨(heap_setCell_other _ _ _ _ (show g ≠ m from hgm)).trans hg5, ⟨vs, v5, by rw [Go.Joins.block_setCell hm5]; rfl, row_set hs5 (by omega), row_set h5 (by omega), (apart_new ha.swap hsW hat).swap, hxs, fun k hk hx => (by
    rcases hat with e | e
    · exact hxu k (by rw [← e]; exact hk) hx
    · rw [e] at hk; have := h.xlt' k hx; have := hb.size; simp at hk; omega)⟩, ?_, h.xlt, h.xg, h.xm, by simp; have := h.few; omega⟩⟩
  exact ((h.only.trans (.of_below hb h.xlt')).trans ⟨hg.os, hg.tape, hg.output, hg.size, fun k hk _ => hg.block k (Nat.lt_of_lt_of_le (h.xlt' k hk) hb.size) (fun e => hxu k e.symm hk)⟩).other h.xm _ _
end
theorem flat_snocS (L : List S) (s : S) : (L ++ [s]).flatMap encS = L.flatMap encS ++ encS s := by simp
theorem flat_snocU (L : List U) (s : U) : (L ++ [s]).flatMap encU = L.flatMap encU ++ encU s := by simp
set_option maxRecDepth 100000 in
set_option maxHeartbeats 4000000 in
theorem tell_any (X : Nat → Prop) (w0 w : World) (g m : Nat) (c : C) (o : O) (s : S) (h : Make X w0 w g m c o) (hl : o.sigs.length ≤ 999) :
    Calls Tryd.prog 64 #[.pointer (some ⟨m, 0, none⟩), .agg (encS s).toArray] w fun e w' => (∃ v, e = .returned v) ∧ Make X w0 w' g m c { o with sigs := o.sigs ++ [s] } := by
  obtain ⟨kind, data, self, code, n⟩ := s
  obtain ⟨vs, vu, hm, hs, hu, ha, hxs, hxu⟩ := h.rest
  have HXS := Lib.hid hxs
  have HXU := Lib.hid hxu
  have H := Lib.hid h
  have HM := Lib.hid hm
  have HS := Lib.hid hs
  have HU := Lib.hid hu
  have HA := Lib.hid ha
  have HLS := Lib.hid hl
  have p1 : (w.alloc (.cells #[.int .i64 kind, .string data, .bool self, .int .u8 code, .int .i64 n] 71)).cell? ⟨m, 1, none⟩ = some vs := (cell_of_row _ _ _ _ _ _ ((((Below.refl w.heap.size w).alloc (Nat.le_refl _) _).block m h.mlt).trans hm)).trans rfl
  have p1b : ((w.alloc (.cells #[.int .i64 kind, .string data, .bool self, .int .u8 code, .int .i64 n] 71)).alloc (.cells #[.int .i64 kind, .string data, .bool self, .int .u8 code, .int .i64 n] 71)).cell? ⟨m, 1, none⟩ = some vs := (cell_of_row _ _ _ _ _ _ (((((Below.refl w.heap.size w).alloc (Nat.le_refl _) _).alloc (by simp) _).block m h.mlt).trans hm)).trans rfl
  have hfz : w.frozen? ⟨m, 1, none⟩ = false := h.mfree 1
  clear h hm hs hu ha hl hxs hxu
  show Calls Tryd.prog _ #[_, .agg #[.int .i64 kind, .string data, .bool self, .int .u8 code, .int .i64 n]] _ _
  go_enter Tryd.func64, Tryd.ntmps64
  go_wp2_with fail
  go_region_law (refine step_app rfl (.tmp 9) (.tmp 11) 58 71 rfl (m + 1) 5 40 Tryd.underlying58 infoS (by decide) (by decide) vs _ _ rfl (Own.own_below HS.out ((((Below.refl w.heap.size w).alloc (Nat.le_refl _) _).drew).alloc (by simp) _)) _ 1 (encS ⟨kind, data, self, code, n⟩) rfl rfl (news_at _ _ rfl _ (by simp)) (by simp [encS, Value.oneCell']) (by have := HLS.out; omega) (by have := H.out.mlt; simp; omega) ?_
                 intro v5 w5 hown5 hgrow5 hat5
                 obtain ⟨a5, cap5, rfl, _⟩ := Own.own_form hown5
                 (have hfin := H.out.app_s ((((Below.refl w.heap.size w).alloc (Nat.le_refl _) _).drew).alloc (by simp) _) HM.out HS.out HU.out HA.out HXS.out HXU.out ⟨kind, data, self, code, n⟩ (by unfold OwnS; rw [flat_snocS, List.length_append]; exact hown5) hgrow5 hat5 HLS.out)
                 (have q1 : w5.cell? ⟨m, 1, none⟩ = some vs := (cell_of_row _ _ _ _ _ _ hfin.1).trans rfl)
                 (have q2 : w5.frozen? ⟨m, 1, none⟩ = false := frozen_of_row _ _ _ _ _ hfin.1)
                 (have HF := Lib.hid hfin.2)
                 clear hown5 hgrow5 hat5 hfin)
  all_goals
    (try simp only [Exit.inBlock, Exit.then])
    refine bodyPost_end (results_none rfl _ _ _) rfl ?_
    exact ⟨⟨_, rfl⟩, HF.out⟩
set_option maxRecDepth 100000 in
set_option maxHeartbeats 4000000 in
theorem put_any (X : Nat → Prop) (w0 w : World) (g m : Nat) (c : C) (o : O) (s : U) (h : Make X w0 w g m c o) (hl : o.units.length ≤ 999) :
    Calls Tryd.prog 73 #[.pointer (some ⟨m, 0, none⟩), .agg (encU s).toArray] w fun e w' => (∃ v, e = .returned v) ∧ Make X w0 w' g m c { o with units := o.units ++ [s] } := by
  obtain ⟨kind, sq, n, self, data⟩ := s
  obtain ⟨vs, vu, hm, hs, hu, ha, hxs, hxu⟩ := h.rest
  have HXS := Lib.hid hxs
  have HXU := Lib.hid hxu
  have H := Lib.hid h
  have HM := Lib.hid hm
  have HS := Lib.hid hs
  have HU := Lib.hid hu
  have HA := Lib.hid ha
  have HLS := Lib.hid hl
  have p1 : (w.alloc (.cells #[.int .i64 kind, .int .i64 sq, .int .u32 n, .int .u32 0, .int .u32 0, .slice none 0 0, .bool self, .string data] 74)).cell? ⟨m, 2, none⟩ = some vu := (cell_of_row _ _ _ _ _ _ ((((Below.refl w.heap.size w).alloc (Nat.le_refl _) _).block m h.mlt).trans hm)).trans rfl
  have p1b : ((w.alloc (.cells #[.int .i64 kind, .int .i64 sq, .int .u32 n, .int .u32 0, .int .u32 0, .slice none 0 0, .bool self, .string data] 74)).alloc (.cells #[.int .i64 kind, .int .i64 sq, .int .u32 n, .int .u32 0, .int .u32 0, .slice none 0 0, .bool self, .string data] 74)).cell? ⟨m, 2, none⟩ = some vu := (cell_of_row _ _ _ _ _ _ (((((Below.refl w.heap.size w).alloc (Nat.le_refl _) _).alloc (by simp) _).block m h.mlt).trans hm)).trans rfl
  have hfz : w.frozen? ⟨m, 2, none⟩ = false := h.mfree 2
  clear h hm hs hu ha hl hxs hxu
  show Calls Tryd.prog _ #[_, .agg #[.int .i64 kind, .int .i64 sq, .int .u32 n, .int .u32 0, .int .u32 0, .slice none 0 0, .bool self, .string data]] _ _
  go_enter Tryd.func73, Tryd.ntmps73
  go_wp2_with fail
  go_region_law (refine step_app rfl (.tmp 9) (.tmp 11) 59 74 rfl (m + 1) 8 80 Tryd.underlying59 infoU (by decide) (by decide) vu _ _ rfl (Own.own_below HU.out ((((Below.refl w.heap.size w).alloc (Nat.le_refl _) _).drew).alloc (by simp) _)) _ 1 (encU ⟨kind, sq, n, self, data⟩) rfl rfl (news_at _ _ rfl _ (by simp)) (by simp [encU, Value.oneCell']) (by have := HLS.out; omega) (by have := H.out.mlt; simp; omega) ?_
                 intro v5 w5 hown5 hgrow5 hat5
                 obtain ⟨a5, cap5, rfl, _⟩ := Own.own_form hown5
                 (have hfin := H.out.app_u ((((Below.refl w.heap.size w).alloc (Nat.le_refl _) _).drew).alloc (by simp) _) HM.out HS.out HU.out HA.out HXS.out HXU.out ⟨kind, sq, n, self, data⟩ (by unfold OwnU; rw [flat_snocU, List.length_append]; exact hown5) hgrow5 hat5 HLS.out)
                 (have q1 : w5.cell? ⟨m, 2, none⟩ = some vu := (cell_of_row _ _ _ _ _ _ hfin.1).trans rfl)
                 (have q2 : w5.frozen? ⟨m, 2, none⟩ = false := frozen_of_row _ _ _ _ _ hfin.1)
                 (have HF := Lib.hid hfin.2)
                 clear hown5 hgrow5 hat5 hfin)
  all_goals
    (try simp only [Exit.inBlock, Exit.then])
    refine bodyPost_end (results_none rfl _ _ _) rfl ?_
    exact ⟨⟨_, rfl⟩, HF.out⟩
end Go.Proofs.YtkphompjahcjiaaDoor.Conn
