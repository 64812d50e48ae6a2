/- The cache in memory, beside other blocks. -/
import Derived.Test.YtlmbjipcdhenlaaC5s
namespace Go.Proofs.Ytlmbjipcdhenlaa.Cs
open Go.ChangeShapes Go.WideShapes Go.ChangeAt Go.RowKit
open Go.Proofs.Ytlmbjipcdhenlaa.Ca
set_option linter.unusedVariables false
set_option linter.unusedSimpArgs false
theorem HL.on {w w' : World} {b : Nat} {D : List Nat} {N O : Nat → Option Nat} {h t : Option Nat} (H : HL w b D N O h t) (kb : w'.heap[b]? = w.heap[b]?) (kx : ∀ x ∈ D, w'.heap[x]? = w.heap[x]?) : HL w' b D N O h t :=
  ⟨(World.cell?_of_block (a := ⟨b, 2, none⟩) kb).trans H.ch, (World.cell?_of_block (a := ⟨b, 3, none⟩) kb).trans H.ct, (World.frozen?_of_block (a := ⟨b, 2, none⟩) kb).trans H.zh, (World.frozen?_of_block (a := ⟨b, 3, none⟩) kb).trans H.zt,
    fun x hx => (World.cell?_of_block (a := ⟨x, 2, none⟩) (kx x hx)).trans (H.n x hx), fun x hx => (World.cell?_of_block (a := ⟨x, 3, none⟩) (kx x hx)).trans (H.o x hx), fun x hx => (World.frozen?_of_block (a := ⟨x, 2, none⟩) (kx x hx)).trans (H.zn x hx), fun x hx => (World.frozen?_of_block (a := ⟨x, 3, none⟩) (kx x hx)).trans (H.zo x hx), H.nb⟩
theorem CA.on {w w' : World} {b base : Nat} {most : Int} {X : List (En ByteArray)} {hits misses nb : Nat} (C : CA w b base most X hits misses nb) (kb : w'.heap[b]? = w.heap[b]?) (kr : ∀ r, w.cell? ⟨b, 1, none⟩ = some (.map (some r)) → w'.heap[r]? = w.heap[r]?) (kx : ∀ x ∈ X.map (·.1), w'.heap[x]? = w.heap[x]?) : CA w' b base most X hits misses nb := by
  obtain ⟨r, h1, h2, h3⟩ := C.mp
  obtain ⟨N, O, H, hch⟩ := C.ln
  exact ⟨(World.cell?_of_block (a := ⟨b, 0, none⟩) kb).trans C.m0, C.mpos, ⟨r, (World.cell?_of_block (a := ⟨b, 1, none⟩) kb).trans h1, h2, h3.heap (kr r h1)⟩, (World.cell?_of_block (a := ⟨b, 4, none⟩) kb).trans C.hc, (World.cell?_of_block (a := ⟨b, 5, none⟩) kb).trans C.mc,
    (World.frozen?_of_block (a := ⟨b, 4, none⟩) kb).trans C.zh, (World.frozen?_of_block (a := ⟨b, 5, none⟩) kb).trans C.zm, ⟨N, O, H.on kb kx, hch⟩, fun x hx => ⟨(World.cell?_of_block (a := ⟨x.1, 0, none⟩) (kx _ (List.mem_map_of_mem hx))).trans (C.kv x hx).1, (World.cell?_of_block (a := ⟨x.1, 1, none⟩) (kx _ (List.mem_map_of_mem hx))).trans (C.kv x hx).2⟩, C.nd, C.nk, C.lo, C.sz, C.cnt⟩
/-- The blocks of S are no part of the cache. -/
def Fg (w : World) (b : Nat) (X : List (En ByteArray)) (S : Nat → Prop) : Prop := ∀ k, S k → k < w.heap.size ∧ k ≠ b ∧ k ∉ X.map (·.1) ∧ w.cell? ⟨b, 1, none⟩ ≠ some (.map (some k))
/-- A cache in memory, by its keys and values, beside blocks that are no part of it. -/
def CS (w : World) (b base : Nat) (most : Int) (L : List (ByteArray × ByteArray)) (hits misses nb : Nat) (S : Nat → Prop) : Prop := ∃ X, CA w b base most X hits misses nb ∧ X.map (·.2) = L ∧ Fg w b X S
def Kp (S : Nat → Prop) (w w' : World) : Prop := ∀ k, S k → w'.heap[k]? = w.heap[k]?
theorem CS.cv {w : World} {b base : Nat} {most : Int} {L : List (ByteArray × ByteArray)} {hits misses nb : Nat} {S : Nat → Prop} (C : CS w b base most L hits misses nb S) : CV w b base most L hits misses nb := by
  obtain ⟨X, h, e, _⟩ := C
  exact ⟨X, h, e⟩
theorem CS.of {w : World} {b base : Nat} {most : Int} {L : List (ByteArray × ByteArray)} {hits misses nb : Nat} (C : CV w b base most L hits misses nb) : CS w b base most L hits misses nb (fun _ => False) := by
  obtain ⟨X, h, e⟩ := C
  exact ⟨X, h, e, fun k hk => hk.elim⟩
theorem CS.mono {w : World} {b base : Nat} {most : Int} {L : List (ByteArray × ByteArray)} {hits misses nb : Nat} {S S' : Nat → Prop} (C : CS w b base most L hits misses nb S) (h : ∀ k, S' k → S k) : CS w b base most L hits misses nb S' := by
  obtain ⟨X, h1, e, h2⟩ := C
  exact ⟨X, h1, e, fun k hk => h2 k (h k hk)⟩
theorem CS.up {w : World} {b base : Nat} {most : Int} {L : List (ByteArray × ByteArray)} {hits misses nb nb' : Nat} {S : Nat → Prop} (C : CS w b base most L hits misses nb S) (hn : nb ≤ nb') : CS w b base most L hits misses nb' S := by
  obtain ⟨X, h1, e, h2⟩ := C
  exact ⟨X, h1.up hn, e, h2⟩
/-- Only blocks that are no part of the cache have turned; what is new is no part of it, too. -/
theorem CS.other {w w' : World} {b base : Nat} {most : Int} {L : List (ByteArray × ByteArray)} {hits misses nb : Nat} {S : Nat → Prop} (C : CS w b base most L hits misses nb S) (h : ∀ k, k < w.heap.size → ¬ S k → w'.heap[k]? = w.heap[k]?) (hs : w.heap.size ≤ w'.heap.size) :
    CS w' b base most L hits misses nb (fun k => S k ∨ (w.heap.size ≤ k ∧ k < w'.heap.size)) := by
  obtain ⟨X, h1, e, h2⟩ := C
  have lt : ∀ {x o v}, w.cell? ⟨x, o, none⟩ = some v → x < w.heap.size := fun h => by have := World.block_lt_of_cell? w _ h; simpa using this
  have kb : w'.heap[b]? = w.heap[b]? := h b (lt h1.m0) (fun hS => (h2 b hS).2.1 rfl)
  have kx : ∀ x ∈ X.map (·.1), w'.heap[x]? = w.heap[x]? := fun x hx => h x (by obtain ⟨y, hy, rfl⟩ := List.mem_map.1 hx; exact lt (h1.kv y hy).1) (fun hS => (h2 x hS).2.2.1 hx)
  obtain ⟨r, q1, q2, q3⟩ := h1.mp
  have kr : ∀ r, w.cell? ⟨b, 1, none⟩ = some (.map (some r)) → w'.heap[r]? = w.heap[r]? := fun r' hr' => by
    have hr2 := hr'
    rw [q1] at hr2
    cases hr2
    exact h r q3.lt (fun hS => (h2 r hS).2.2.2 hr')
  have hc1 : w'.cell? ⟨b, 1, none⟩ = w.cell? ⟨b, 1, none⟩ := World.cell?_of_block (a := ⟨b, 1, none⟩) kb
  refine ⟨X, h1.on kb kr kx, e, fun k hk => ?_⟩
  rw [hc1]
  rcases hk with hk | ⟨hk1, hk2⟩
  · obtain ⟨a1, a2, a3, a4⟩ := h2 k hk
    exact ⟨by omega, a2, a3, a4⟩
  · refine ⟨hk2, fun e => by have := lt h1.m0; omega, fun hx => ?_, fun hr => ?_⟩
    · obtain ⟨y, hy, rfl⟩ := List.mem_map.1 hx
      have := lt (h1.kv y hy).1; omega
    · rw [q1] at hr; cases hr; have := q3.lt; omega
theorem CS.below {w w' : World} {b base : Nat} {most : Int} {L : List (ByteArray × ByteArray)} {hits misses nb : Nat} {S : Nat → Prop} (C : CS w b base most L hits misses nb S) (hb : Below w.heap.size w w') : CS w' b base most L hits misses nb (fun k => S k ∨ (w.heap.size ≤ k ∧ k < w'.heap.size)) :=
  C.other (fun k hk _ => hb.block k hk) hb.size
theorem fg_next {w w' : World} {b : Nat} {X X' : List (En ByteArray)} {S : Nat → Prop} (h : Fg w b X S) (hf : Fo w b X w') (hs : w.heap.size ≤ w'.heap.size) (hX : ∀ x ∈ X'.map (·.1), x ∈ X.map (·.1) ∨ w.heap.size ≤ x) : Fg w' b X' S ∧ Kp S w w' :=
  ⟨fun k hk => by
    obtain ⟨a1, a2, a3, a4⟩ := h k hk
    exact ⟨by omega, a2, fun hx => by rcases hX k hx with h | h; exact a3 h; omega, by rw [hf.m]; exact a4⟩, fun k hk => by
    obtain ⟨a1, a2, a3, a4⟩ := h k hk
    exact hf.h k a1 a2 a3 a4⟩
def GS (b base : Nat) (most : Int) (L : List (ByteArray × ByteArray)) (hits misses nb : Nat) (S : Nat → Prop) (s : ByteArray) (w : World) (e : Ending) (w' : World) : Prop :=
  Below base w w' ∧ Kp S w w' ∧ ((lkv L s = none ∧ e = .returned (.tuple #[.string ⟨#[]⟩, .bool false]) ∧ CS w' b base most L hits (misses + 1) (nb + 1) S) ∨ ∃ v, lkv L s = some v ∧ e = .returned (.tuple #[.string v, .bool true]) ∧ CS w' b base most ((s, v) :: rml L s) (hits + 1) misses (nb + 1) S)
theorem getS (b base : Nat) (most : Int) (L : List (ByteArray × ByteArray)) (hits misses nb : Nat) (S : Nat → Prop) (s : ByteArray) (w : World) (C : CS w b base most L hits misses nb S) (hs : s.size ≤ maxLen) (hnb : nb < 1000) : Calls Try.prog 25 #[.pointer (some ⟨b, 0, none⟩), .string s] w (GS b base most L hits misses nb S s w) := by
  obtain ⟨X, h, rfl, hS⟩ := C
  refine (get1 b base most X hits misses nb s w (Lib.hid h) hs hnb).mono ?_
  rintro e w' ⟨hb, hf, ⟨h1, rfl, h2⟩ | ⟨i, x, h1, rfl, rfl, h2⟩⟩
  · obtain ⟨f1, f2⟩ := fg_next (X' := X) hS hf hb.size (fun x hx => .inl hx)
    exact ⟨hb, f2, .inl ⟨look_lkv h1, rfl, X, h2, rfl, f1⟩⟩
  · obtain ⟨f1, f2⟩ := fg_next (X' := x :: X.eraseIdx i) hS hf hb.size (fun y hy => .inl (by
      rw [List.map_cons, List.mem_cons] at hy
      rcases hy with rfl | hy
      · exact List.mem_map_of_mem (List.mem_of_getElem? h1)
      · obtain ⟨z, hz, rfl⟩ := List.mem_map.1 hy; exact List.mem_map_of_mem (mem_erase hz)))
    refine ⟨hb, f2, .inr ⟨x.2.2, ?_, rfl, x :: X.eraseIdx i, h2, ?_, f1⟩⟩
    · exact lkv_at (x := x.2) (by rw [map_snd]; exact h.nk) (List.mem_map_of_mem (List.mem_of_getElem? h1))
    · rw [List.map_cons, erase_rml h.nk h1]
def PS (b base : Nat) (most : Int) (L : List (ByteArray × ByteArray)) (hits misses nb : Nat) (S : Nat → Prop) (s : ByteArray) (v : ByteArray) (w : World) (e : Ending) (w' : World) : Prop :=
  Below base w w' ∧ Kp S w w' ∧ ((((rml L s).length : Int) + 1 ≤ most ∧ e = .returned (.bool false) ∧ CS w' b base most ((s, v) :: rml L s) hits misses (nb + 1) S) ∨ (most < ((rml L s).length : Int) + 1 ∧ e = .returned (.bool true) ∧ CS w' b base most ((s, v) :: rml L s).dropLast hits misses (nb + 1) S))
theorem putS (b base : Nat) (most : Int) (L : List (ByteArray × ByteArray)) (hits misses nb : Nat) (S : Nat → Prop) (s : ByteArray) (v : ByteArray) (w : World) (C : CS w b base most L hits misses nb S) (hs : s.size ≤ maxLen) (hnb : nb < 900) (hm : most ≤ 1024) : Calls Try.prog 27 #[.pointer (some ⟨b, 0, none⟩), .string s, .string v] w (PS b base most L hits misses nb S s v w) := by
  obtain ⟨X, h, rfl, hS⟩ := C
  refine (put1 b base most X hits misses nb s v w (Lib.hid h) hs hnb hm).mono ?_
  rintro e w' ⟨hb, hf, X0, e0, hsz, h0, h1⟩
  have hX0 : X0.map (·.2) = rml (X.map (·.2)) s := by
    rcases h0 with ⟨h0, rfl⟩ | ⟨i, x, hi, rfl, rfl⟩
    · exact (rml_none (lkv_none.1 (look_lkv h0))).symm
    · exact erase_rml h.nk hi
  have hsub : ∀ y ∈ X0.map (·.1), y ∈ X.map (·.1) := fun y hy => by
    obtain ⟨z, hz, rfl⟩ := List.mem_map.1 hy
    rcases h0 with ⟨h0, rfl⟩ | ⟨i, x, hi, rfl, rfl⟩
    · exact List.mem_map_of_mem hz
    · exact List.mem_map_of_mem (mem_erase hz)
  have hsub1 : ∀ y ∈ ((e0, s, v) :: X0).map (·.1), y ∈ X.map (·.1) ∨ w.heap.size ≤ y := fun y hy => by
    rw [List.map_cons, List.mem_cons] at hy
    rcases hy with rfl | hy
    · exact .inr hsz
    · exact .inl (hsub y hy)
  have hl : (rml (X.map (·.2)) s).length = X0.length := by rw [← hX0, List.length_map]
  rcases h1 with ⟨h1, rfl, h2⟩ | ⟨h1, rfl, h2⟩
  · obtain ⟨f1, f2⟩ := fg_next (X' := (e0, s, v) :: X0) hS hf hb.size hsub1
    exact ⟨hb, f2, .inl ⟨by rw [hl]; exact h1, rfl, _, h2, by rw [List.map_cons, hX0], f1⟩⟩
  · obtain ⟨f1, f2⟩ := fg_next (X' := ((e0, s, v) :: X0).eraseIdx X0.length) hS hf hb.size (fun y hy => hsub1 y (by
      obtain ⟨z, hz, rfl⟩ := List.mem_map.1 hy; exact List.mem_map_of_mem (mem_erase hz)))
    refine ⟨hb, f2, .inr ⟨by rw [hl]; exact h1, rfl, _, h2, ?_, f1⟩⟩
    rw [show X0.length = ((e0, s, v) :: X0).length - 1 from rfl, erase_last, List.map_dropLast, List.map_cons, hX0]
def RS (b base : Nat) (most : Int) (L : List (ByteArray × ByteArray)) (hits misses nb : Nat) (S : Nat → Prop) (s : ByteArray) (w : World) (e : Ending) (w' : World) : Prop :=
  Below base w w' ∧ Kp S w w' ∧ CS w' b base most (rml L s) hits misses nb S ∧ e = .returned (.bool (lkv L s).isSome)
theorem removeS (b base : Nat) (most : Int) (L : List (ByteArray × ByteArray)) (hits misses nb : Nat) (S : Nat → Prop) (s : ByteArray) (w : World) (C : CS w b base most L hits misses nb S) (hs : s.size ≤ maxLen) : Calls Try.prog 61 #[.pointer (some ⟨b, 0, none⟩), .string s] w (RS b base most L hits misses nb S s w) := by
  obtain ⟨X, h, rfl, hS⟩ := C
  refine (remove1 b base most X hits misses nb s w (Lib.hid h) hs).mono ?_
  rintro e w' ⟨hb, hf, ⟨h1, rfl, h2⟩ | ⟨i, x, h1, rfl, rfl, h2⟩⟩
  · obtain ⟨f1, f2⟩ := fg_next (X' := X) hS hf hb.size (fun x hx => .inl hx)
    exact ⟨hb, f2, ⟨X, h2, (rml_none (lkv_none.1 (look_lkv h1))).symm, f1⟩, by rw [look_lkv h1]; rfl⟩
  · obtain ⟨f1, f2⟩ := fg_next (X' := X.eraseIdx i) hS hf hb.size (fun y hy => .inl (by obtain ⟨z, hz, rfl⟩ := List.mem_map.1 hy; exact List.mem_map_of_mem (mem_erase hz)))
    refine ⟨hb, f2, ⟨_, h2, erase_rml h.nk h1, f1⟩, ?_⟩
    rw [lkv_at (x := x.2) (by rw [map_snd]; exact h.nk) (List.mem_map_of_mem (List.mem_of_getElem? h1))]
    rfl
end Go.Proofs.Ytlmbjipcdhenlaa.Cs
