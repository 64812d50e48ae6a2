/- The cache in memory, by its keys and values. -/
import Derived.Test.YtlmbjipcdhenlaaC4s
import Derived.Test.YtlmbjipcdhenlaaCv
namespace Go.Proofs.Ytlmbjipcdhenlaa.Cs
open Go.ChangeShapes Go.WideShapes Go.ChangeAt Go.RowKit
open Go.Proofs.Ytlmbjipcdhenlaa.Ca
set_option linter.unusedVariables false
set_option linter.unusedSimpArgs false
/-- A cache in memory, by its keys and values. -/
def CV (w : World) (b base : Nat) (most : Int) (L : List (ByteArray × ByteArray)) (hits misses nb : Nat) : Prop := ∃ X, CA w b base most X hits misses nb ∧ X.map (·.2) = L
theorem CV.keep {w w' : World} {b base : Nat} {most : Int} {L : List (ByteArray × ByteArray)} {hits misses nb : Nat} (C : CV w b base most L hits misses nb) (hg : Below w.heap.size w w') : CV w' b base most L hits misses nb := by
  obtain ⟨X, h, e⟩ := C
  exact ⟨X, h.keep hg, e⟩
theorem CV.nodup {w : World} {b base : Nat} {most : Int} {L : List (ByteArray × ByteArray)} {hits misses nb : Nat} (C : CV w b base most L hits misses nb) : (L.map (·.1)).Nodup := by
  obtain ⟨X, h, rfl⟩ := C
  rw [map_snd]; exact h.nk
theorem CV.sz {w : World} {b base : Nat} {most : Int} {L : List (ByteArray × ByteArray)} {hits misses nb : Nat} (C : CV w b base most L hits misses nb) : ∀ x ∈ L, x.1.size ≤ maxLen := by
  obtain ⟨X, h, rfl⟩ := C
  intro x hx
  obtain ⟨y, hy, rfl⟩ := List.mem_map.1 hx
  exact h.sz y hy
theorem CV.up {w : World} {b base : Nat} {most : Int} {L : List (ByteArray × ByteArray)} {hits misses nb nb' : Nat} (C : CV w b base most L hits misses nb) (hn : nb ≤ nb') : CV w b base most L hits misses nb' := by
  obtain ⟨X, h, e⟩ := C
  exact ⟨X, h.up hn, e⟩
theorem CV.lt {w : World} {b base : Nat} {most : Int} {L : List (ByteArray × ByteArray)} {hits misses nb : Nat} (C : CV w b base most L hits misses nb) : b < w.heap.size := by
  obtain ⟨X, h, e⟩ := C
  have := World.block_lt_of_cell? w _ h.m0
  simpa using this
theorem CV.le {w : World} {b base : Nat} {most : Int} {L : List (ByteArray × ByteArray)} {hits misses nb : Nat} (C : CV w b base most L hits misses nb) : L.length ≤ nb ∧ base ≤ b := by
  obtain ⟨X, h, rfl⟩ := C
  obtain ⟨r, h1, h2, n, D, h3, h4, h5, _⟩ := h.mp
  have := h3.size_le
  rw [List.length_map]
  exact ⟨by omega, h.lo.1⟩
def GV (b base : Nat) (most : Int) (L : List (ByteArray × ByteArray)) (hits misses nb : Nat) (s : ByteArray) (w : World) (e : Ending) (w' : World) : Prop :=
  Below base w w' ∧ ((lkv L s = none ∧ e = .returned (.tuple #[.string ⟨#[]⟩, .bool false]) ∧ CV w' b base most L hits (misses + 1) (nb + 1)) ∨ ∃ v, lkv L s = some v ∧ e = .returned (.tuple #[.string v, .bool true]) ∧ CV w' b base most ((s, v) :: rml L s) (hits + 1) misses (nb + 1))
theorem getV (b base : Nat) (most : Int) (L : List (ByteArray × ByteArray)) (hits misses nb : Nat) (s : ByteArray) (w : World) (C : CV w b base most L hits misses nb) (hs : s.size ≤ maxLen) (hnb : nb < 1000) : Calls Try.prog 25 #[.pointer (some ⟨b, 0, none⟩), .string s] w (GV b base most L hits misses nb s w) := by
  obtain ⟨X, h, rfl⟩ := C
  refine (get1 b base most X hits misses nb s w (Lib.hid h) hs hnb).mono ?_
  rintro e w' ⟨hb, _, ⟨h1, rfl, h2⟩ | ⟨i, x, h1, rfl, rfl, h2⟩⟩
  · exact ⟨hb, .inl ⟨look_lkv h1, rfl, X, h2, rfl⟩⟩
  · refine ⟨hb, .inr ⟨x.2.2, ?_, rfl, x :: X.eraseIdx i, h2, ?_⟩⟩
    · exact lkv_at (x := x.2) (by rw [map_snd]; exact h.nk) (List.mem_map_of_mem (List.mem_of_getElem? h1))
    · rw [List.map_cons, erase_rml h.nk h1]
def PV (b base : Nat) (most : Int) (L : List (ByteArray × ByteArray)) (hits misses nb : Nat) (s : ByteArray) (v : ByteArray) (w : World) (e : Ending) (w' : World) : Prop :=
  Below base w w' ∧ ((((rml L s).length : Int) + 1 ≤ most ∧ e = .returned (.bool false) ∧ CV w' b base most ((s, v) :: rml L s) hits misses (nb + 1)) ∨ (most < ((rml L s).length : Int) + 1 ∧ e = .returned (.bool true) ∧ CV w' b base most ((s, v) :: rml L s).dropLast hits misses (nb + 1)))
theorem putV (b base : Nat) (most : Int) (L : List (ByteArray × ByteArray)) (hits misses nb : Nat) (s : ByteArray) (v : ByteArray) (w : World) (C : CV w b base most L hits misses nb) (hs : s.size ≤ maxLen) (hnb : nb < 900) (hm : most ≤ 1024) : Calls Try.prog 27 #[.pointer (some ⟨b, 0, none⟩), .string s, .string v] w (PV b base most L hits misses nb s v w) := by
  obtain ⟨X, h, rfl⟩ := C
  refine (put1 b base most X hits misses nb s v w (Lib.hid h) hs hnb hm).mono ?_
  rintro e w' ⟨hb, _, X0, e0, _, h0, h1⟩
  have hX0 : X0.map (·.2) = rml (X.map (·.2)) s := by
    rcases h0 with ⟨h0, rfl⟩ | ⟨i, x, hi, rfl, rfl⟩
    · exact (rml_none (lkv_none.1 (look_lkv h0))).symm
    · exact erase_rml h.nk hi
  have hl : (rml (X.map (·.2)) s).length = X0.length := by rw [← hX0, List.length_map]
  refine ⟨hb, ?_⟩
  rw [hl]
  rcases h1 with ⟨h1, rfl, h2⟩ | ⟨h1, rfl, h2⟩
  · exact .inl ⟨h1, rfl, _, h2, by rw [List.map_cons, hX0]⟩
  · refine .inr ⟨h1, rfl, _, h2, ?_⟩
    rw [show X0.length = ((e0, s, v) :: X0).length - 1 from rfl, erase_last, List.map_dropLast, List.map_cons, hX0]
def RV (b base : Nat) (most : Int) (L : List (ByteArray × ByteArray)) (hits misses nb : Nat) (s : ByteArray) (w : World) (e : Ending) (w' : World) : Prop :=
  Below base w w' ∧ CV w' b base most (rml L s) hits misses nb ∧ e = .returned (.bool (lkv L s).isSome)
theorem removeV (b base : Nat) (most : Int) (L : List (ByteArray × ByteArray)) (hits misses nb : Nat) (s : ByteArray) (w : World) (C : CV w b base most L hits misses nb) (hs : s.size ≤ maxLen) : Calls Try.prog 61 #[.pointer (some ⟨b, 0, none⟩), .string s] w (RV b base most L hits misses nb s w) := by
  obtain ⟨X, h, rfl⟩ := C
  refine (remove1 b base most X hits misses nb s w (Lib.hid h) hs).mono ?_
  rintro e w' ⟨hb, _, ⟨h1, rfl, h2⟩ | ⟨i, x, h1, rfl, rfl, h2⟩⟩
  · exact ⟨hb, ⟨X, h2, (rml_none (lkv_none.1 (look_lkv h1))).symm⟩, by rw [look_lkv h1]; rfl⟩
  · refine ⟨hb, ⟨_, h2, erase_rml h.nk h1⟩, ?_⟩
    rw [lkv_at (x := x.2) (by rw [map_snd]; exact h.nk) (List.mem_map_of_mem (List.mem_of_getElem? h1))]
    rfl
theorem lenV1 (b base : Nat) (most : Int) (L : List (ByteArray × ByteArray)) (hits misses nb : Nat) (w : World) (C : CV w b base most L hits misses nb) : Calls Try.prog 48 #[.pointer (some ⟨b, 0, none⟩)] w fun e w' => e = .returned (.int .i64 (L.length : Int)) ∧ w = w' := by
  obtain ⟨X, h, rfl⟩ := C
  rw [List.length_map]
  exact len1 b base most X hits misses nb w (Lib.hid h)
def KV (L : List (ByteArray × ByteArray)) (w : World) (e : Ending) (w' : World) : Prop := ∃ v, e = .returned v ∧ w'.ownsRow w.heap.size 9 1 v L.length (L.map fun x => .string x.1) ∧ Below w.heap.size w w'
theorem keysV (b base : Nat) (most : Int) (L : List (ByteArray × ByteArray)) (hits misses nb : Nat) (w : World) (C : CV w b base most L hits misses nb) (hn : L.length ≤ 2000) : Calls Try.prog 30 #[.pointer (some ⟨b, 0, none⟩)] w (KV L w) := by
  obtain ⟨X, h, rfl⟩ := C
  rw [List.length_map] at hn
  refine (keys1 b base most X hits misses nb w (Lib.hid h) hn).mono ?_
  rintro e w' ⟨v, rfl, h1, h2⟩
  exact ⟨v, rfl, by rw [List.length_map, List.map_map]; exact h1, h2⟩
def NV1 (m : Int) (w : World) (e : Ending) (w' : World) : Prop := ∃ b, e = .returned (.tuple #[.pointer (some ⟨b, 0, none⟩), .int .i64 0]) ∧ CV w' b w.heap.size m [] 0 0 0 ∧ Below w.heap.size w w'
theorem newV (m : Int) (w : World) (h1 : 1 ≤ m) (h2 : m ≤ 1024) : Calls Try.prog 23 #[.int .i64 m] w (NV1 m w) := by
  refine (new1 m w h1 h2).mono ?_
  rintro e w' ⟨rfl, hC, hB⟩
  exact ⟨_, rfl, ⟨[], hC, rfl⟩, hB⟩
end Go.Proofs.Ytlmbjipcdhenlaa.Cs
