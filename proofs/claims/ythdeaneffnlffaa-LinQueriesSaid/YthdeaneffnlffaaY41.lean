/- Linear forms: sorting names. -/
import Derived.Test.YthdeaneffnlffaaY40
import Derived.Test.YthdeaneffnlffaaY26
import Derived.Test.YthdeaneffnlffaaShelfB
import Derived.Sort.OwnSorted
namespace Go.Proofs.Ythdeaneffnlffaa.Ln
open Go.ChangeShapes Go.WideShapes Go.ChangeAt Go.RowKit
set_option linter.unusedVariables false
set_option linter.unusedSimpArgs false
open Go.Sort
theorem stC_enc (ls : List ByteArray) : stC ls = (ls.map dl).map encStr := by
  unfold stC
  rw [List.map_map]
  refine List.map_congr_left (fun b _ => ?_)
  show Value.string b = Value.string (ofL (dl b))
  rw [ofL_dl]
theorem enc_stC (l : List (List UInt8)) : l.map encStr = stC (l.map ofL) := by
  unfold stC
  rw [List.map_map]
  rfl
def leb (x y : List UInt8) : Bool := decide (x ≤ y)
def srtS (ls : List ByteArray) : List (List UInt8) := (ls.map dl).mergeSort fun x y => decide (x ≤ y)
theorem srtS_len (ls : List ByteArray) : (srtS ls).length = ls.length := by unfold srtS; rw [List.length_mergeSort, List.length_map]
theorem srtS_asc (ls : List ByteArray) : (srtS ls).Pairwise (· ≤ ·) := by
  unfold srtS
  have := List.pairwise_mergeSort (le := fun x y : List UInt8 => decide (x ≤ y)) (fun a b c h1 h2 => by
    simp only [decide_eq_true_eq] at *
    exact List.le_trans h1 h2) (fun a b => by
    simp only [Bool.or_eq_true, decide_eq_true_eq]
    exact List.le_total a b) (ls.map dl)
  exact this.imp (fun h => of_decide_eq_true h)
theorem srtS_mem (ls : List ByteArray) (x : List UInt8) : x ∈ srtS ls ↔ x ∈ ls.map dl := (List.mergeSort_perm _ _).mem_iff
/-- Sorted, and each once. -/
def cmpS (ls : List ByteArray) : List ByteArray := (Lib.compact (srtS ls)).map ofL
theorem cmpS_srt (ls : List ByteArray) : Srt (cmpS ls) := by
  unfold cmpS Srt
  rw [List.pairwise_map]
  exact (compact_lt (srtS_asc ls)).imp (fun h => slt_of h)
theorem cmpS_mem (ls : List ByteArray) (x : ByteArray) : x ∈ cmpS ls ↔ x ∈ ls := by
  unfold cmpS
  rw [List.mem_map]
  constructor
  · rintro ⟨l, hl, rfl⟩
    rw [compact_mem, srtS_mem, List.mem_map] at hl
    obtain ⟨b, hb, rfl⟩ := hl
    rw [ofL_dl]
    exact hb
  · intro h
    exact ⟨dl x, by rw [compact_mem, srtS_mem]; exact List.mem_map_of_mem h, ofL_dl x⟩
theorem sortS (v : Value) (ls : List ByteArray) (base : Nat) (w : World) (hO : w.ownsRow base 9 1 v ls.length (stC ls)) (hz : ls.length ≤ 4611686018427387903) :
    Calls Try.prog 54 #[v] w fun e w' => e = .returned (.tuple #[]) ∧ w'.ownsRow base 9 1 v ls.length (stC ((srtS ls).map ofL)) ∧ w.grownBy w' v.ownBlock := by
  rw [stC_enc] at hO
  rw [← enc_stC]
  rcases hO.2 with ⟨rfl, h0⟩ | ⟨g, cap, cur, rfl, hg, hb, h1, h2, h3, h4⟩
  · obtain rfl : ls = [] := List.eq_nil_of_length_eq_zero h0
    refine (Try.slices_Sort_string_none none 0 w).mono ?_
    rintro e w' ⟨rfl, rfl⟩
    have e0 : srtS [] = [] := by simp [srtS]
    rw [e0]
    exact ⟨rfl, hO, rfl, rfl, rfl, Nat.le_refl _, fun k _ _ => rfl⟩
  · have hlt : g < w.heap.size := (Array.getElem?_eq_some_iff.1 hb).1
    have hl : (ls.map dl).length = ls.length := List.length_map _
    have hh := holds_of_block (ss := ls.map dl) hb (by rw [hl]; rw [Nat.mul_one] at h4; exact h4)
    have C := Try.slices_Sort_string g 0 cap (ls.map dl) w hh hlt (by rw [hl]; omega)
    rw [hl] at C
    refine C.mono ?_
    rintro e w' ⟨rfl, n, os, rfl⟩
    have hR := ownsRow_sorted (ss := ls.map dl) (ts := srtS ls) (n := n) (os := os) (by rw [srtS_len, hl]) hg hb (by rw [hl]; exact h1) h2 h3
    rw [hl] at hR
    exact ⟨rfl, hR, grownBy_sorted _⟩
end Go.Proofs.Ythdeaneffnlffaa.Ln
