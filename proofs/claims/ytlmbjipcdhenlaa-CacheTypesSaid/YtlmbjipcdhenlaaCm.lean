/- The cache: its map from keys to entries. -/
import Derived.Test.YtlmbjipcdhenlaaC0
import Derived.Test.YtlmbjipcdhenlaaRows
import Derived.WalkKit
import Derived.Maps.OwnSet
import Derived.Maps.Views
namespace Go.Proofs.Ytlmbjipcdhenlaa.Ca
open Go.ChangeShapes Go.WideShapes Go.ChangeAt Go.RowKit Go.Maps Go.ChangeMaps Go.MapKept
set_option linter.unusedVariables false
set_option linter.unusedSimpArgs false
def RP : Value → Option (DataW Unit × List MemPlace)
  | .pointer (some ⟨b, 0, none⟩) => some (.lit (.int .i64 (b : Int)), [])
  | .pointer none => some (.lit (.int .i64 (-1)), [])
  | _ => none
theorem RP_inv {v : Value} {e : Nat} {ps : List MemPlace} (h : RP v = some (.lit (.int .i64 (e : Int)), ps)) : v = .pointer (some ⟨e, 0, none⟩) := by
  unfold RP at h
  split at h
  · rename_i b
    simp at h
    obtain rfl : b = e := by omega
    rfl
  · simp at h
  · cases h
def kl (s : ByteArray) : Lit := .string s.data.toList
theorem kl_inj {s t : ByteArray} (h : kl s = kl t) : s = t := by
  unfold kl at h
  injection h with h
  exact ByteArray.ext (Array.toList_inj.1 h)
theorem kl_key {s : ByteArray} (hs : s.size ≤ maxLen) : keyOf Try.prog 9 (.string s) = some (kl s) := WideMaps.keyOf_string_mk Try.underlying9 hs
theorem kl_lit (s : ByteArray) : WideAt.IsKeyLit (kl s) := by unfold kl; trivial
theorem KD : Maps.Keyed Try.prog 9 := string_keyed Try.underlying9
/-- Block r is a map of c keys to blocks. -/
def MP (w : World) (r : Nat) (M : ByteArray → Option Nat) (c nb : Nat) : Prop :=
  ∃ n D, w.ownsMap Try.prog 9 RP r n D ∧ n ≤ nb ∧ Maps.size D = c ∧ ∀ s : ByteArray, s.size ≤ maxLen → Maps.has D (kl s) = (M s).isSome ∧ ∀ e, M s = some e → ∀ z, D.atKey (kl s) z = .lit (.int .i64 (e : Int))
theorem MP.made (w : World) : MP (w.alloc (.map #[] 0)) w.heap.size (fun _ => none) 0 0 :=
  ⟨0, .map [], World.ownsMap_made _ _ _ _, Nat.le_refl _, rfl, fun s _ => ⟨rfl, fun e h => by cases h⟩⟩
theorem MP.heap {w w' : World} {r : Nat} {M : ByteArray → Option Nat} {c nb : Nat} (h : MP w r M c nb) (hh : w'.heap[r]? = w.heap[r]?) : MP w' r M c nb := by
  obtain ⟨n, D, ⟨es, clock, hb, rest⟩, h2⟩ := h
  exact ⟨n, D, ⟨es, clock, hh.trans hb, rest⟩, h2⟩
theorem MP.lt {w : World} {r : Nat} {M : ByteArray → Option Nat} {c nb : Nat} (h : MP w r M c nb) : r < w.heap.size := by
  obtain ⟨n, D, ho, _⟩ := h
  exact ho.lt
theorem MP.ne {w : World} {r : Nat} {M : ByteArray → Option Nat} {c nb : Nat} (h : MP w r M c nb) {x o : Nat} {v : Value} (hc : w.cell? ⟨x, o, none⟩ = some v) : x ≠ r := fun e => by
  subst e
  obtain ⟨n, D, ⟨es, clock, hb, _⟩, _⟩ := h
  simp [World.cell?, hb] at hc
theorem MP.mono {w : World} {r : Nat} {M : ByteArray → Option Nat} {c nb nb' : Nat} (h : MP w r M c nb) (hn : nb ≤ nb') : MP w r M c nb' := by
  obtain ⟨n, D, h1, h2, h3⟩ := h
  exact ⟨n, D, h1, Nat.le_trans h2 hn, h3⟩
theorem MP.congr {w : World} {r : Nat} {M M' : ByteArray → Option Nat} {c nb : Nat} (h : MP w r M c nb) (hm : ∀ s, M s = M' s) : MP w r M' c nb := by
  rwa [show M' = M from funext fun s => (hm s).symm]
theorem MP.yes {w : World} {r : Nat} {M : ByteArray → Option Nat} {c nb : Nat} (h : MP w r M c nb) {t e : TypeId} (ht : Try.prog.underlying t = some (.map 9 e)) (hz : (zeroValue e).run Try.prog w = .ok (.pointer none) w) {s : ByteArray} (hs : s.size ≤ maxLen) {x : Nat} (hx : M s = some x) :
    (Instr.lookup t (.map (some r)) (.string s) true).run Try.prog w = .ok (.tuple #[.pointer (some ⟨x, 0, none⟩), .bool true]) w := by
  obtain ⟨n, D, h1, h2, h3, h4⟩ := h
  obtain ⟨v, ps, hrun, hv⟩ := h1.look_ok KD ht hz (zd := .lit (.int .i64 (-1))) (zp := []) rfl (kl_key hs)
  rw [(h4 s hs).2 x hx] at hv
  rw [RP_inv hv, (h4 s hs).1, hx] at hrun
  exact hrun
theorem MP.no {w : World} {r : Nat} {M : ByteArray → Option Nat} {c nb : Nat} (h : MP w r M c nb) {t e : TypeId} (ht : Try.prog.underlying t = some (.map 9 e)) (hz : (zeroValue e).run Try.prog w = .ok (.pointer none) w) {s : ByteArray} (hs : s.size ≤ maxLen) (hx : M s = none) :
    ∃ v, (Instr.lookup t (.map (some r)) (.string s) true).run Try.prog w = .ok (.tuple #[v, .bool false]) w := by
  obtain ⟨n, D, h1, h2, h3, h4⟩ := h
  obtain ⟨v, ps, hrun, hv⟩ := h1.look_ok KD ht hz (zd := .lit (.int .i64 (-1))) (zp := []) rfl (kl_key hs)
  rw [(h4 s hs).1, hx] at hrun
  exact ⟨v, hrun⟩
theorem MP.put {w : World} {r : Nat} {M : ByteArray → Option Nat} {c nb : Nat} (h : MP w r M c nb) {t e : TypeId} (ht : Try.prog.underlying t = some (.map 9 e)) (hn : nb < 1000) {s : ByteArray} (hs : s.size ≤ maxLen) (x : Nat) :
    ∃ w', (Instr.mapUpdate t (.map (some r)) (.string s) (.pointer (some ⟨x, 0, none⟩))).run Try.prog w = .ok () w' ∧ MP w' r (fun k => if k = s then some x else M k) (if (M s).isSome then c else c + 1) (nb + 1) ∧ w.grownBy w' (some r) := by
  obtain ⟨n, D, h1, h2, h3, h4⟩ := h
  obtain ⟨w', hrun, h5, h6⟩ := h1.update KD ht (by unfold maxLen; omega) (kl_key hs) (val := .pointer (some ⟨x, 0, none⟩)) (d := .lit (.int .i64 (x : Int))) (ps := []) rfl
  refine ⟨w', hrun, ⟨n + 1, _, h5, by omega, ?_, fun k hk => ?_⟩, h6⟩
  · rw [Maps.size_put (h1.tidy KD), (h4 s hs).1, h3]
  · by_cases hks : k = s
    · subst hks
      simp only [if_true]
      exact ⟨Maps.has_put_same (h1.isMap) (kl_lit k) _, fun e he z => by cases he; exact Maps.atKey_put_same h1.isMap (kl_lit k) _ _⟩
    · simp only [if_neg hks]
      have hne : kl k ≠ kl s := fun e => hks (kl_inj e)
      exact ⟨(Maps.has_put_other hne _).trans (h4 k hk).1, fun e he z => (Maps.atKey_put_other hne _ _).trans ((h4 k hk).2 e he z)⟩
theorem MP.del {w : World} {r : Nat} {M : ByteArray → Option Nat} {c nb : Nat} (h : MP w r M c nb) {t e : TypeId} (ht : Try.prog.underlying t = some (.map 9 e)) {s : ByteArray} (hs : s.size ≤ maxLen) {x : Nat} (hx : M s = some x) (ty : TypeId) :
    ∃ w', (Builtin.delete_ #[t, 9] ty #[.map (some r), .string s]).run Try.prog w = .ok (.tuple #[]) w' ∧ MP w' r (fun k => if k = s then none else M k) (c - 1) nb ∧ w.grownBy w' (some r) := by
  obtain ⟨n, D, h1, h2, h3, h4⟩ := h
  obtain ⟨w', hrun, h5, h6⟩ := h1.drop KD ht (kl_key hs) ty
  refine ⟨w', hrun, ⟨n, _, h5, h2, ?_, fun k hk => ?_⟩, h6.grown⟩
  · have := Maps.size_del (k := kl s) (h1.tidy KD)
    rw [(h4 s hs).1, hx, h3] at this
    simp at this
    omega
  · by_cases hks : k = s
    · subst hks
      simp only [if_true]
      exact ⟨Maps.has_del_same, fun e he => by cases he⟩
    · simp only [if_neg hks]
      have hne : kl k ≠ kl s := fun e => hks (kl_inj e)
      exact ⟨(Maps.has_del_other hne).trans (h4 k hk).1, fun e he z => (Maps.atKey_del_other hne _).trans ((h4 k hk).2 e he z)⟩
theorem MP.len {w : World} {r : Nat} {M : ByteArray → Option Nat} {c nb : Nat} (h : MP w r M c nb) {t e : TypeId} (ht : Try.prog.underlying t = some (.map 9 e)) : ∀ ty, (Builtin.len_ #[t] ty #[.map (some r)]).run Try.prog w = .ok (.int .i64 (c : Int)) w := fun ty => by
  obtain ⟨n, D, h1, h2, h3, h4⟩ := h
  rw [← h3]
  exact h1.len ht ty
end Go.Proofs.Ytlmbjipcdhenlaa.Ca
