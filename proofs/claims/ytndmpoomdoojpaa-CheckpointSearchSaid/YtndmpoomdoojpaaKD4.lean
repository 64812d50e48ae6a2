/- The list while free goes through the slots of a state. -/
import Derived.Test.YtndmpoomdoojpaaRows
import Derived.WalkKit
import Derived.ProofKit
import Derived.OpenShut
import Derived.WalkLawsBesides
import Derived.WalkSpells
import Derived.Outline
import Derived.Handy
import Derived.IntWalk
import Derived.Deep.QuietTactic
import Derived.BigQuiet
import Derived.Lib.Hide
import Derived.Test.YtndmpoomdoojpaaKD3
namespace Go.Proofs.Ytndmpoomdoojpaa.Ck.Sr
open Go.ChangeShapes Go.WideShapes Go.ChangeAt Go.RowKit Go.Proofs.Ytndmpoomdoojpaa.Ck Go.Proofs.Ytndmpoomdoojpaa.Ck.Bf
set_option linter.unusedVariables false


/-- The list and the state at hand, while free goes through the slots of a state. -/
structure FB (N S base : Nat) (L0 : List Sd) (w : World) (v0 : Value) (i b6 a l : Nat) (s : List Int) (u6 : Value) (L1 : List (Sd × Value)) (v1 : Value) (wr : World) : Prop where
  fv : Fv N S L0 (L1.map (·.1)) i
  ro : RowS S wr base v1 L1
  gr : w.grownBy wr v0.ownBlock
  nw : Nw w.heap.size v0 v1
  ne : v1.ownBlock ≠ some b6
  c0 : wr.cell? ⟨b6, 0, none⟩ = some (.int .i64 (a : Int))
  c1 : wr.cell? ⟨b6, 1, none⟩ = some (.int .i64 (l : Int))
  c2 : wr.cell? ⟨b6, 2, none⟩ = some u6
  ou : wr.ownsRow base 3 1 u6 S (s.map (Value.int .i64))
  me : (L1.map (·.1))[i]? = some (a, l, s)
theorem FB.low {N S base : Nat} {L0 : List Sd} {w : World} {v0 : Value} {i b6 a l : Nat} {s : List Int} {u6 : Value} {L1 : List (Sd × Value)} {v1 : Value} {wr wz : World} (h : FB N S base L0 w v0 i b6 a l s u6 L1 v1 wr) (hb : Below wr.heap.size wr wz) : FB N S base L0 w v0 i b6 a l s u6 L1 v1 wz :=
  ⟨h.fv, h.ro.low hb, gx_trans h.gr (gx_below hb none) (.inr fun k e => by cases e), h.nw, h.ne, Rg.keep hb (World.block_lt_of_cell? _ _ h.c0) h.c0, Rg.keep hb (World.block_lt_of_cell? _ _ h.c1) h.c1, Rg.keep hb (World.block_lt_of_cell? _ _ h.c2) h.c2, own_low h.ou hb, h.me⟩
theorem FB.add {N S base : Nat} {L0 : List Sd} {w : World} {v0 : Value} {i b6 a l : Nat} {s : List Int} {u6 : Value} {L1 : List (Sd × Value)} {v1 : Value} {wz w8 : World} {y : Sd} {u v8 : Value} (h : FB N S base L0 w v0 i b6 a l s u6 L1 v1 wz) (hy : y ∈ sb S (a, l, s)) (hr : RowS S w8 base v8 (adV L1 y u)) (hg : wz.grownBy w8 v1.ownBlock) (hn : Nw wz.heap.size v1 v8) (hw : w.heap.size ≤ wz.heap.size) : FB N S base L0 w v0 i b6 a l s u6 (adV L1 y u) v8 w8 := by
  have hlt : b6 < wz.heap.size := World.block_lt_of_cell? _ _ h.c0
  have hne : ∀ {o : Nat}, some (⟨b6, o, none⟩ : Addr).block ≠ v1.ownBlock := fun {o} e => h.ne e.symm
  have hm := h.me
  refine ⟨by rw [adV_map]; exact h.fv.step (List.mem_of_getElem? hm) hy, hr, h.nw.gx h.gr hg, h.nw.trans hn hw, ?_, hg.cell h.c0 hne, hg.cell h.c1 hne, hg.cell h.c2 hne, h.ou.kept hg (own_two3 h.ou h.ro.1), by rw [adV_map]; exact adS_get hm⟩
  rcases hn with hn | hn
  · rw [hn]; exact h.ne
  · intro e; have := hn _ e; omega
theorem FB.len {N S base : Nat} {L0 : List Sd} {w : World} {v0 : Value} {i b6 a l : Nat} {s : List Int} {u6 : Value} {L1 : List (Sd × Value)} {v1 : Value} {wr : World} (hN : N ≤ 5) (hS : S ≤ 2) (h : FB N S base L0 w v0 i b6 a l s u6 L1 v1 wr) : L1.length ≤ 1764 := by
  have := h.fv.few hN hS
  rwa [List.length_map] at this
theorem FB.wfs {N S base : Nat} {L0 : List Sd} {w : World} {v0 : Value} {i b6 a l : Nat} {s : List Int} {u6 : Value} {L1 : List (Sd × Value)} {v1 : Value} {wr : World} (h : FB N S base L0 w v0 i b6 a l s u6 L1 v1 wr) : WfS N S (a, l, s) := h.fv.wf _ (List.mem_of_getElem? h.me)
/-- What the first slots give lies in the list. -/
def Sl (x : Sd) (k : Nat) (M : List Sd) : Prop := ∀ j, j < k → ∀ y ∈ sb1 x j, y ∈ M
theorem Sl.up {x y : Sd} {k : Nat} {M : List Sd} (h : Sl x k M) : Sl x k (adS M y) := fun j hj z hz => adS_up (h j hj z hz)
theorem Sl.next {a l k : Nat} {s : List Int} {M : List Sd} (h : Sl (a, l, s) k M) (h1 : (a, l, s.set k (a : Int)) ∈ M) (h2 : 0 ≤ s.getD k 0 → ((s.getD k 0).toNat, l, s) ∈ M) : Sl (a, l, s) (k + 1) M := fun j hj y hy => by
  by_cases e : j = k
  · subst e
    unfold sb1 at hy
    rcases List.mem_cons.1 hy with rfl | hy
    · exact h1
    · simp only at hy
      by_cases hc : 0 ≤ s.getD j 0
      · rw [if_pos hc, List.mem_singleton] at hy
        subst hy
        exact h2 hc
      · rw [if_neg hc] at hy; exact absurd hy (by simp)
  · exact h j (by omega) y hy
theorem Sl.all {a l S : Nat} {s : List Int} {M : List Sd} (h : Sl (a, l, s) S M) (h1 : (0, l, s) ∈ M) (h2 : a + 1 = l → (a, l - 1, s) ∈ M) : ∀ u ∈ sb S (a, l, s), u ∈ M := fun u hu => by
  unfold sb at hu
  rcases List.mem_append.1 hu with hu | hu
  · obtain ⟨k, hk, hy⟩ := mem_sbL.1 hu
    exact h k hk u hy
  · rcases List.mem_cons.1 hu with rfl | hu
    · exact h1
    · simp only at hu
      by_cases hc : a + 1 = l
      · rw [if_pos hc, List.mem_singleton] at hu
        subst hu
        exact h2 hc
      · rw [if_neg hc] at hu; exact absurd hu (by simp)
theorem sb_store {a l S k : Nat} {s : List Int} (hk : k < S) : (a, l, s.set k (a : Int)) ∈ sb S (a, l, s) := mem_sb.2 (.inl ⟨k, hk, rfl⟩)
theorem sb_rest {a l S k : Nat} {s : List Int} (hk : k < S) (h : 0 ≤ s.getD k 0) : ((s.getD k 0).toNat, l, s) ∈ sb S (a, l, s) := mem_sb.2 (.inr (.inl ⟨k, hk, h, rfl⟩))
theorem sb_zero {a l S : Nat} {s : List Int} : (0, l, s) ∈ sb S (a, l, s) := mem_sb.2 (.inr (.inr (.inl rfl)))
theorem sb_rev {a l S : Nat} {s : List Int} (h : a + 1 = l) : (a, l - 1, s) ∈ sb S (a, l, s) := mem_sb.2 (.inr (.inr (.inr ⟨h, rfl⟩)))
end Go.Proofs.Ytndmpoomdoojpaa.Ck.Sr
