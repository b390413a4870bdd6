/-
  Units: what is read of the words, whatever the kind.
-/
import Derived.Test.YtaappdaolenkiaaDoorPduRead3
namespace Go.Proofs.YtaappdaolenkiaaDoor.Pdu
open Go.ChangeShapes Go.WideShapes Go.RowKit Own

/-- SQ, PS, MR, List, and what is left -/
structure Got where
  sq : Int
  ps : Int
  mr : Int
  list : List Int
  rest : St
def gotS (st : St) : Got := ⟨(takeW st).1, 0, 0, [], (takeW st).2⟩
def gotO (st : St) : Got := ⟨0, 0, 0, [], st⟩
def gotP (st : St) : Got := ⟨0, (takeW st).1, 0, [], (takeW st).2⟩
def gotM (st : St) : Got := ⟨0, 0, (takeW st).1, (takeN 2 (takeW st).2).1.reverse, (takeN 2 (takeW st).2).2⟩
def gotB (st : St) : Got := ⟨0, (takeW (takeW st).2).1, (takeW st).1, (takeN ((takeW (takeW st).2).2.1.size / 4) (takeW (takeW st).2).2).1.reverse, (takeN ((takeW (takeW st).2).2.1.size / 4) (takeW (takeW st).2).2).2⟩
def gotU (k : Nat) (st : St) : Got := if k = 8 ∨ k = 13 ∨ k = 14 then gotO st else if k = 10 then gotP st else if k = 11 then gotB st else if k = 12 then gotM st else gotS st

theorem read_any (k g1 g2 : Nat) (n : Int) (self : Bool) (st : St) (w : World) (hk1 : 1 ≤ k) (hk2 : k ≤ 15)
    (hF : Forms w) (hp : PAt w g1 k 0 n 0 0 (.slice none 0 0) self) (hr : RestAt w g2 st.1 st.2) (hne : g1 ≠ g2) (hm : st.1.size ≤ 100000) :
    Calls Tryd.prog 33 #[.pointer (some ⟨g1, 0, none⟩), .pointer (some ⟨g2, 0, none⟩)] w fun e w' => (∃ v, e = .returned v) ∧
      ∃ lv, PAt w' g1 k (gotU k st).sq n (gotU k st).ps (gotU k st).mr lv self ∧ OwnI .u32 29 w' (w.heap.size + 1) lv (gotU k st).list ∧ RestAt w' g2 (gotU k st).rest.1 (gotU k st).rest.2 ∧ Below (min g1 g2) w w' := by
  have hmm : st.1.size ≤ maxLen := Nat.le_trans hm (by decide)
  match k, hk1, hk2, hp with
  | 1, _, _, hp => exact (read_S 1 g1 g2 _ _ _ n _ self st w (by decide) (by decide) (fun w' h => h.row 1 (by decide)) hF hp hr hne hmm).mono fun e w' ⟨he, h1, h2, h3⟩ => ⟨he, _, h1, OwnI.nil, h2, h3⟩
  | 2, _, _, hp => exact (read_S 2 g1 g2 _ _ _ n _ self st w (by decide) (by decide) (fun w' h => h.row 2 (by decide)) hF hp hr hne hmm).mono fun e w' ⟨he, h1, h2, h3⟩ => ⟨he, _, h1, OwnI.nil, h2, h3⟩
  | 3, _, _, hp => exact (read_S 3 g1 g2 _ _ _ n _ self st w (by decide) (by decide) (fun w' h => h.row 3 (by decide)) hF hp hr hne hmm).mono fun e w' ⟨he, h1, h2, h3⟩ => ⟨he, _, h1, OwnI.nil, h2, h3⟩
  | 4, _, _, hp => exact (read_S 4 g1 g2 _ _ _ n _ self st w (by decide) (by decide) (fun w' h => h.row 4 (by decide)) hF hp hr hne hmm).mono fun e w' ⟨he, h1, h2, h3⟩ => ⟨he, _, h1, OwnI.nil, h2, h3⟩
  | 5, _, _, hp => exact (read_S 5 g1 g2 _ _ _ n _ self st w (by decide) (by decide) (fun w' h => h.row 5 (by decide)) hF hp hr hne hmm).mono fun e w' ⟨he, h1, h2, h3⟩ => ⟨he, _, h1, OwnI.nil, h2, h3⟩
  | 6, _, _, hp => exact (read_S 6 g1 g2 _ _ _ n _ self st w (by decide) (by decide) (fun w' h => h.row 6 (by decide)) hF hp hr hne hmm).mono fun e w' ⟨he, h1, h2, h3⟩ => ⟨he, _, h1, OwnI.nil, h2, h3⟩
  | 7, _, _, hp => exact (read_S 7 g1 g2 _ _ _ n _ self st w (by decide) (by decide) (fun w' h => h.row 7 (by decide)) hF hp hr hne hmm).mono fun e w' ⟨he, h1, h2, h3⟩ => ⟨he, _, h1, OwnI.nil, h2, h3⟩
  | 8, _, _, hp => exact (read_O 8 g1 g2 _ _ n _ self st w (by decide) (fun w' h => h.row 8 (by decide)) hF hp hr hne hmm).mono fun e w' ⟨he, h1, h2, h3⟩ => ⟨he, _, h1, OwnI.nil, h2, h3⟩
  | 9, _, _, hp => exact (read_S 9 g1 g2 _ _ _ n _ self st w (by decide) (by decide) (fun w' h => h.row 9 (by decide)) hF hp hr hne hmm).mono fun e w' ⟨he, h1, h2, h3⟩ => ⟨he, _, h1, OwnI.nil, h2, h3⟩
  | 10, _, _, hp => exact (read_P 10 g1 g2 _ _ _ n _ self st w (by decide) (by decide) (fun w' h => h.row 10 (by decide)) hF hp hr hne hmm).mono fun e w' ⟨he, h1, h2, h3⟩ => ⟨he, _, h1, OwnI.nil, h2, h3⟩
  | 11, _, _, hp => exact (read_B 11 g1 g2 _ _ _ _ _ n _ self st w (by decide) (by decide) (by decide) (by decide) (fun w' h => h.row 11 (by decide)) hF hp hr hne hm)
  | 12, _, _, hp => exact (read_M 12 g1 g2 _ _ _ n _ self st w (by decide) (by decide) (fun w' h => h.row 12 (by decide)) hF hp hr hne hmm)
  | 13, _, _, hp => exact (read_O 13 g1 g2 _ _ n _ self st w (by decide) (fun w' h => h.row 13 (by decide)) hF hp hr hne hmm).mono fun e w' ⟨he, h1, h2, h3⟩ => ⟨he, _, h1, OwnI.nil, h2, h3⟩
  | 14, _, _, hp => exact (read_O 14 g1 g2 _ _ n _ self st w (by decide) (fun w' h => h.row 14 (by decide)) hF hp hr hne hmm).mono fun e w' ⟨he, h1, h2, h3⟩ => ⟨he, _, h1, OwnI.nil, h2, h3⟩
  | 15, _, _, hp => exact (read_S 15 g1 g2 _ _ _ n _ self st w (by decide) (by decide) (fun w' h => h.row 15 (by decide)) hF hp hr hne hmm).mono fun e w' ⟨he, h1, h2, h3⟩ => ⟨he, _, h1, OwnI.nil, h2, h3⟩
  | k + 16, _, h, _ => exact absurd h (by omega)
end Go.Proofs.YtaappdaolenkiaaDoor.Pdu
