/- The cache in memory; Len, Get. -/
import Derived.Test.YtlmbjipcdhenlaaC1p
import Derived.Test.YtlmbjipcdhenlaaCm
namespace Go.Proofs.Ytlmbjipcdhenlaa.Cp
open Go.ChangeShapes Go.WideShapes Go.ChangeAt Go.RowKit
open Go.Proofs.Ytlmbjipcdhenlaa.Ca
set_option linter.unusedVariables false
set_option linter.unusedSimpArgs false
def vl (x : (ByteArray × Int)) : Value := .agg #[.string x.1, .int .i64 x.2]
/-- A cache in memory. -/
structure CA (w : World) (b base : Nat) (most : Int) (X : List (En (ByteArray × Int))) (hits misses nb : Nat) : Prop where
  m0 : w.cell? ⟨b, 0, none⟩ = some (.int .i64 most)
  mpos : 0 < most
  mp : ∃ r, w.cell? ⟨b, 1, none⟩ = some (.map (some r)) ∧ base ≤ r ∧ MP w r (Ca.look X) X.length nb
  hc : w.cell? ⟨b, 4, none⟩ = some (.int .i64 (hits : Int))
  mc : w.cell? ⟨b, 5, none⟩ = some (.int .i64 (misses : Int))
  zh : w.frozen? ⟨b, 4, none⟩ = false
  zm : w.frozen? ⟨b, 5, none⟩ = false
  ln : ∃ N O, HL w b (X.map (·.1)) N O (X.map (·.1)).head? (X.map (·.1)).getLast? ∧ Chain (X.map (·.1)) N O
  kv : ∀ x ∈ X, w.cell? ⟨x.1, 0, none⟩ = some (.string x.2.1) ∧ (w.cell? ⟨x.1, 1, none⟩ = some (.string x.2.2.1) ∧ w.cell? ⟨x.1, 2, none⟩ = some (.int .i64 x.2.2.2))
  nd : (X.map (·.1)).Nodup
  nk : (X.map (·.2.1)).Nodup
  lo : base ≤ b ∧ ∀ x ∈ X, base ≤ x.1
  sz : ∀ x ∈ X, x.2.1.size ≤ maxLen
  cnt : hits ≤ nb ∧ misses ≤ nb
theorem zeroPE (w : World) : (zeroValue 96).run Try.prog w = .ok (.pointer none) w := by kernel_rfl
theorem HL.own {w : World} {b : Nat} {D : List Nat} {N O : Nat → Option Nat} {h t : Option Nat} (H : HL w b D N O h t) {o : Nat} (h1 : o ≠ 2) (h2 : o ≠ 3) (v : Value) : HL (w.setCell ⟨b, o, none⟩ v) b D N O h t := by
  have hne : ∀ x ∈ D, b ≠ x := fun x hx e => H.nb (e ▸ hx)
  refine ⟨?_, ?_, by rw [fz_set]; exact H.zh, by rw [fz_set]; exact H.zt, fun x hx => ?_, fun x hx => ?_, fun x hx => by rw [fz_set]; exact H.zn x hx, fun x hx => by rw [fz_set]; exact H.zo x hx, H.nb⟩
  · rw [World.cell?_setCell_other _ _ _ _ (by intro e; injection e with _ e2; omega)]; exact H.ch
  · rw [World.cell?_setCell_other _ _ _ _ (by intro e; injection e with _ e2; omega)]; exact H.ct
  · rw [World.cell?_setCell_far _ _ _ _ (hne x hx)]; exact H.n x hx
  · rw [World.cell?_setCell_far _ _ _ _ (hne x hx)]; exact H.o x hx
theorem HL.grown {w w' : World} {b r : Nat} {D : List Nat} {N O : Nat → Option Nat} {h t : Option Nat} (H : HL w b D N O h t) (hg : w.grownBy w' (some r)) (hb : b ≠ r) (hD : ∀ x ∈ D, x ≠ r) : HL w' b D N O h t := by
  have lt : ∀ {x o v}, w.cell? ⟨x, o, none⟩ = some v → x < w.heap.size := fun h => by have := World.block_lt_of_cell? w _ h; simpa using this
  have kb : w'.heap[b]? = w.heap[b]? := hg.block b (lt H.ch) (by simpa using hb)
  have kx : ∀ x ∈ D, w'.heap[x]? = w.heap[x]? := fun x hx => hg.block x (lt (H.n x hx)) (by simpa using hD x hx)
  exact ⟨(World.cell?_of_block (a := ⟨b, 2, none⟩) kb).trans H.ch, (World.cell?_of_block (a := ⟨b, 3, none⟩) kb).trans H.ct, (World.frozen?_of_block (a := ⟨b, 2, none⟩) kb).trans H.zh, (World.frozen?_of_block (a := ⟨b, 3, none⟩) kb).trans H.zt,
    fun x hx => (World.cell?_of_block (a := ⟨x, 3, none⟩) (kx x hx)).trans (H.n x hx), fun x hx => (World.cell?_of_block (a := ⟨x, 4, none⟩) (kx x hx)).trans (H.o x hx), fun x hx => (World.frozen?_of_block (a := ⟨x, 3, none⟩) (kx x hx)).trans (H.zn x hx), fun x hx => (World.frozen?_of_block (a := ⟨x, 4, none⟩) (kx x hx)).trans (H.zo x hx), H.nb⟩
theorem HL.below {w w' : World} {b : Nat} {D : List Nat} {N O : Nat → Option Nat} {h t : Option Nat} (H : HL w b D N O h t) (hg : Below w.heap.size w w') : HL w' b D N O h t := by
  have lt : ∀ {x o v}, w.cell? ⟨x, o, none⟩ = some v → x < w.heap.size := fun h => by have := World.block_lt_of_cell? w _ h; simpa using this
  have kb : w'.heap[b]? = w.heap[b]? := hg.block b (lt H.ch)
  have kx : ∀ x ∈ D, w'.heap[x]? = w.heap[x]? := fun x hx => hg.block x (lt (H.n x hx))
  exact ⟨(World.cell?_of_block (a := ⟨b, 2, none⟩) kb).trans H.ch, (World.cell?_of_block (a := ⟨b, 3, none⟩) kb).trans H.ct, (World.frozen?_of_block (a := ⟨b, 2, none⟩) kb).trans H.zh, (World.frozen?_of_block (a := ⟨b, 3, none⟩) kb).trans H.zt,
    fun x hx => (World.cell?_of_block (a := ⟨x, 3, none⟩) (kx x hx)).trans (H.n x hx), fun x hx => (World.cell?_of_block (a := ⟨x, 4, none⟩) (kx x hx)).trans (H.o x hx), fun x hx => (World.frozen?_of_block (a := ⟨x, 3, none⟩) (kx x hx)).trans (H.zn x hx), fun x hx => (World.frozen?_of_block (a := ⟨x, 4, none⟩) (kx x hx)).trans (H.zo x hx), H.nb⟩
theorem HL.sub {w : World} {b : Nat} {D D' : List Nat} {N O : Nat → Option Nat} {h t : Option Nat} (H : HL w b D N O h t) (hs : ∀ x ∈ D', x ∈ D) : HL w b D' N O h t :=
  ⟨H.ch, H.ct, H.zh, H.zt, fun x hx => H.n x (hs x hx), fun x hx => H.o x (hs x hx), fun x hx => H.zn x (hs x hx), fun x hx => H.zo x (hs x hx), fun hb => H.nb (hs b hb)⟩
theorem CA.keep {w w' : World} {b base : Nat} {most : Int} {X : List (En (ByteArray × Int))} {hits misses nb : Nat} (C : CA w b base most X hits misses nb) (hg : Below w.heap.size w w') : CA w' b base most X hits misses nb := by
  have lt : ∀ {x o v}, w.cell? ⟨x, o, none⟩ = some v → x < w.heap.size := fun h => by have := World.block_lt_of_cell? w _ h; simpa using this
  have kb : w'.heap[b]? = w.heap[b]? := hg.block b (lt C.m0)
  obtain ⟨r, h1, h2, h3⟩ := C.mp
  obtain ⟨N, O, H, hch⟩ := C.ln
  exact ⟨(World.cell?_of_block (a := ⟨b, 0, none⟩) kb).trans C.m0, C.mpos, ⟨r, (World.cell?_of_block (a := ⟨b, 1, none⟩) kb).trans h1, h2, h3.heap (hg.block r h3.lt)⟩, (World.cell?_of_block (a := ⟨b, 4, none⟩) kb).trans C.hc, (World.cell?_of_block (a := ⟨b, 5, none⟩) kb).trans C.mc,
    (World.frozen?_of_block (a := ⟨b, 4, none⟩) kb).trans C.zh, (World.frozen?_of_block (a := ⟨b, 5, none⟩) kb).trans C.zm, ⟨N, O, H.below hg, hch⟩, fun x hx => ⟨(World.cell?_of_block (a := ⟨x.1, 0, none⟩) (hg.block x.1 (lt (C.kv x hx).1))).trans (C.kv x hx).1, (World.cell?_of_block (a := ⟨x.1, 1, none⟩) (hg.block x.1 (lt (C.kv x hx).1))).trans (C.kv x hx).2.1, (World.cell?_of_block (a := ⟨x.1, 2, none⟩) (hg.block x.1 (lt (C.kv x hx).1))).trans (C.kv x hx).2.2⟩, C.nd, C.nk, C.lo, C.sz, C.cnt⟩
theorem CA.up {w : World} {b base : Nat} {most : Int} {X : List (En (ByteArray × Int))} {hits misses nb nb' : Nat} (C : CA w b base most X hits misses nb) (hn : nb ≤ nb') : CA w b base most X hits misses nb' := by
  obtain ⟨r, h1, h2, h3⟩ := C.mp
  exact ⟨C.m0, C.mpos, ⟨r, h1, h2, h3.mono hn⟩, C.hc, C.mc, C.zh, C.zm, C.ln, C.kv, C.nd, C.nk, C.lo, C.sz, by have := C.cnt; omega⟩
/-- The links have turned, and what they are is known. -/
theorem CA.links {w w' : World} {b base : Nat} {most : Int} {X X' : List (En (ByteArray × Int))} {hits misses nb : Nat} {N O : Nat → Option Nat} {h t : Option Nat} (C : CA w b base most X hits misses nb) (hF : Fr b (X.map (·.1)) w w') (H : HL w' b (X.map (·.1)) N O h t)
    (hm : ∀ x ∈ X', x ∈ X) (hc : Chain (X'.map (·.1)) N O) (hh : h = (X'.map (·.1)).head?) (ht : t = (X'.map (·.1)).getLast?) (hl : X'.length = X.length) (hk : ∀ s, Ca.look X s = Ca.look X' s) (n1 : (X'.map (·.1)).Nodup) (n2 : (X'.map (·.2.1)).Nodup) : CA w' b base most X' hits misses nb := by
  obtain ⟨r, h1, h2, h3⟩ := C.mp
  have hrb : b ≠ r := h3.ne h1
  have hrD : r ∉ X.map (·.1) := fun hr => by
    obtain ⟨x, hx, e⟩ := List.mem_map.1 hr
    exact h3.ne (C.kv x hx).1 e
  subst hh ht
  exact ⟨(hF.own 0 (by decide) (by decide)).trans C.m0, C.mpos, ⟨r, (hF.own 1 (by decide) (by decide)).trans h1, h2, hl ▸ (h3.heap (hF.far r (fun e => hrb e.symm) hrD)).congr hk⟩, (hF.own 4 (by decide) (by decide)).trans C.hc, (hF.own 5 (by decide) (by decide)).trans C.mc, (hF.fz _).trans C.zh, (hF.fz _).trans C.zm,
    ⟨N, O, H.sub (fun x hx => by obtain ⟨y, hy, rfl⟩ := List.mem_map.1 hx; exact List.mem_map_of_mem (hm y hy)), hc⟩, fun x hx => ⟨(hF.val x.1 (List.mem_map_of_mem (hm x hx)) 0 (by decide) (by decide)).trans (C.kv x (hm x hx)).1, (hF.val x.1 (List.mem_map_of_mem (hm x hx)) 1 (by decide) (by decide)).trans (C.kv x (hm x hx)).2.1, (hF.val x.1 (List.mem_map_of_mem (hm x hx)) 2 (by decide) (by decide)).trans (C.kv x (hm x hx)).2.2⟩, n1, n2, ⟨C.lo.1, fun x hx => C.lo.2 x (hm x hx)⟩, fun x hx => C.sz x (hm x hx), C.cnt⟩
theorem CA.hit {w : World} {b base : Nat} {most : Int} {X : List (En (ByteArray × Int))} {hits misses nb : Nat} (C : CA w b base most X hits misses nb) : CA (w.setCell ⟨b, 4, none⟩ (.int .i64 ((hits + 1 : Nat) : Int))) b base most X (hits + 1) misses (nb + 1) := by
  obtain ⟨r, h1, h2, h3⟩ := C.mp
  obtain ⟨N, O, H, hch⟩ := C.ln
  have hb : ∀ x ∈ X, b ≠ x.1 := fun x hx e => H.nb (e ▸ List.mem_map_of_mem hx)
  exact ⟨(World.cell?_setCell_other _ _ _ _ (by intro e; cases e)).trans C.m0, C.mpos, ⟨r, (World.cell?_setCell_other _ _ _ _ (by intro e; cases e)).trans h1, h2, (h3.mono (Nat.le_succ _)).heap (Below.heap_setCell _ _ _ _ (fun e => h3.ne h1 e.symm))⟩, World.cell?_setCell_same _ _ _ C.hc, (World.cell?_setCell_other _ _ _ _ (by intro e; cases e)).trans C.mc, (fz_set _ _ _ _).trans C.zh, (fz_set _ _ _ _).trans C.zm,
    ⟨N, O, H.own (by decide) (by decide) _, hch⟩, fun x hx => ⟨(World.cell?_setCell_far _ _ _ _ (hb x hx)).trans (C.kv x hx).1, (World.cell?_setCell_far _ _ _ _ (hb x hx)).trans (C.kv x hx).2.1, (World.cell?_setCell_far _ _ _ _ (hb x hx)).trans (C.kv x hx).2.2⟩, C.nd, C.nk, C.lo, C.sz, by have := C.cnt; omega⟩
theorem CA.miss {w : World} {b base : Nat} {most : Int} {X : List (En (ByteArray × Int))} {hits misses nb : Nat} (C : CA w b base most X hits misses nb) : CA (w.setCell ⟨b, 5, none⟩ (.int .i64 ((misses + 1 : Nat) : Int))) b base most X hits (misses + 1) (nb + 1) := by
  obtain ⟨r, h1, h2, h3⟩ := C.mp
  obtain ⟨N, O, H, hch⟩ := C.ln
  have hb : ∀ x ∈ X, b ≠ x.1 := fun x hx e => H.nb (e ▸ List.mem_map_of_mem hx)
  exact ⟨(World.cell?_setCell_other _ _ _ _ (by intro e; cases e)).trans C.m0, C.mpos, ⟨r, (World.cell?_setCell_other _ _ _ _ (by intro e; cases e)).trans h1, h2, (h3.mono (Nat.le_succ _)).heap (Below.heap_setCell _ _ _ _ (fun e => h3.ne h1 e.symm))⟩, (World.cell?_setCell_other _ _ _ _ (by intro e; cases e)).trans C.hc, World.cell?_setCell_same _ _ _ C.mc, (fz_set _ _ _ _).trans C.zh, (fz_set _ _ _ _).trans C.zm,
    ⟨N, O, H.own (by decide) (by decide) _, hch⟩, fun x hx => ⟨(World.cell?_setCell_far _ _ _ _ (hb x hx)).trans (C.kv x hx).1, (World.cell?_setCell_far _ _ _ _ (hb x hx)).trans (C.kv x hx).2.1, (World.cell?_setCell_far _ _ _ _ (hb x hx)).trans (C.kv x hx).2.2⟩, C.nd, C.nk, C.lo, C.sz, by have := C.cnt; omega⟩
/-- Blocks that are no part of the cache have not turned. -/
structure Fo (w : World) (b : Nat) (X : List (En (ByteArray × Int))) (w' : World) : Prop where
  m : w'.cell? ⟨b, 1, none⟩ = w.cell? ⟨b, 1, none⟩
  h : ∀ k, k < w.heap.size → k ≠ b → k ∉ X.map (·.1) → w.cell? ⟨b, 1, none⟩ ≠ some (.map (some k)) → w'.heap[k]? = w.heap[k]?
theorem Fo.refl (w : World) (b : Nat) (X : List (En (ByteArray × Int))) : Fo w b X w := ⟨rfl, fun _ _ _ _ _ => rfl⟩
theorem Fo.trans {w w1 w2 : World} {b : Nat} {X X1 : List (En (ByteArray × Int))} (h1 : Fo w b X w1) (h2 : Fo w1 b X1 w2) (hX : ∀ x ∈ X1.map (·.1), x ∈ X.map (·.1) ∨ w.heap.size ≤ x) (hs : w.heap.size ≤ w1.heap.size) : Fo w b X w2 :=
  ⟨h2.m.trans h1.m, fun k a1 a2 a3 a4 => (h2.h k (by omega) a2 (fun hk => by rcases hX k hk with h | h; exact a3 h; omega) (by rw [h1.m]; exact a4)).trans (h1.h k a1 a2 a3 a4)⟩
theorem Fo.set (w : World) (b o : Nat) (X : List (En (ByteArray × Int))) (v : Value) (ho : o ≠ 1) : Fo w b X (w.setCell ⟨b, o, none⟩ v) :=
  ⟨World.cell?_setCell_other _ _ _ _ (by intro e; injection e with _ e2; omega), fun k _ hk _ _ => Below.heap_setCell _ _ _ _ hk⟩
theorem Fo.fr {w w' : World} {b : Nat} {X : List (En (ByteArray × Int))} (h : Fr b (X.map (·.1)) w w') : Fo w b X w' := ⟨h.own 1 (by decide) (by decide), fun k _ a2 a3 _ => h.far k a2 a3⟩
theorem HL.on {w w' : World} {b : Nat} {D : List Nat} {N O : Nat → Option Nat} {h t : Option Nat} (H : HL w b D N O h t) (kb : w'.heap[b]? = w.heap[b]?) (kx : ∀ x ∈ D, w'.heap[x]? = w.heap[x]?) : HL w' b D N O h t :=
  ⟨(World.cell?_of_block (a := ⟨b, 2, none⟩) kb).trans H.ch, (World.cell?_of_block (a := ⟨b, 3, none⟩) kb).trans H.ct, (World.frozen?_of_block (a := ⟨b, 2, none⟩) kb).trans H.zh, (World.frozen?_of_block (a := ⟨b, 3, none⟩) kb).trans H.zt,
    fun x hx => (World.cell?_of_block (a := ⟨x, 3, none⟩) (kx x hx)).trans (H.n x hx), fun x hx => (World.cell?_of_block (a := ⟨x, 4, none⟩) (kx x hx)).trans (H.o x hx), fun x hx => (World.frozen?_of_block (a := ⟨x, 3, none⟩) (kx x hx)).trans (H.zn x hx), fun x hx => (World.frozen?_of_block (a := ⟨x, 4, none⟩) (kx x hx)).trans (H.zo x hx), H.nb⟩
theorem CA.on {w w' : World} {b base : Nat} {most : Int} {X : List (En (ByteArray × Int))} {hits misses nb : Nat} (C : CA w b base most X hits misses nb) (kb : w'.heap[b]? = w.heap[b]?) (kr : ∀ r, w.cell? ⟨b, 1, none⟩ = some (.map (some r)) → w'.heap[r]? = w.heap[r]?) (kx : ∀ x ∈ X.map (·.1), w'.heap[x]? = w.heap[x]?) : CA w' b base most X hits misses nb := by
  obtain ⟨r, h1, h2, h3⟩ := C.mp
  obtain ⟨N, O, H, hch⟩ := C.ln
  exact ⟨(World.cell?_of_block (a := ⟨b, 0, none⟩) kb).trans C.m0, C.mpos, ⟨r, (World.cell?_of_block (a := ⟨b, 1, none⟩) kb).trans h1, h2, h3.heap (kr r h1)⟩, (World.cell?_of_block (a := ⟨b, 4, none⟩) kb).trans C.hc, (World.cell?_of_block (a := ⟨b, 5, none⟩) kb).trans C.mc,
    (World.frozen?_of_block (a := ⟨b, 4, none⟩) kb).trans C.zh, (World.frozen?_of_block (a := ⟨b, 5, none⟩) kb).trans C.zm, ⟨N, O, H.on kb kx, hch⟩, fun x hx => ⟨(World.cell?_of_block (a := ⟨x.1, 0, none⟩) (kx _ (List.mem_map_of_mem hx))).trans (C.kv x hx).1, (World.cell?_of_block (a := ⟨x.1, 1, none⟩) (kx _ (List.mem_map_of_mem hx))).trans (C.kv x hx).2.1, (World.cell?_of_block (a := ⟨x.1, 2, none⟩) (kx _ (List.mem_map_of_mem hx))).trans (C.kv x hx).2.2⟩, C.nd, C.nk, C.lo, C.sz, C.cnt⟩
theorem CA.far {w : World} {b base : Nat} {most : Int} {X : List (En (ByteArray × Int))} {hits misses nb : Nat} (C : CA w b base most X hits misses nb) (g o : Nat) (v : Value) (hb : b ≠ g) (hx : ∀ x ∈ X.map (·.1), x ≠ g) (hr : ∀ r, w.cell? ⟨b, 1, none⟩ = some (.map (some r)) → r ≠ g) : CA (w.setCell ⟨g, o, none⟩ v) b base most X hits misses nb :=
  C.on (Below.heap_setCell _ _ _ _ hb) (fun r h => Below.heap_setCell _ _ _ _ (hr r h)) (fun x h => Below.heap_setCell _ _ _ _ (hx x h))
theorem CA.far2 {w : World} {b base : Nat} {most : Int} {X : List (En (ByteArray × Int))} {hits misses nb : Nat} (C : CA w b base most X hits misses nb) (g : Nat) (v v' : Value) (hb : b ≠ g) (hx : ∀ x ∈ X.map (·.1), x ≠ g) (hr : ∀ r, w.cell? ⟨b, 1, none⟩ = some (.map (some r)) → r ≠ g) : CA ((w.setCell ⟨g, 0, none⟩ v).setCell ⟨g, 1, none⟩ v') b base most X hits misses nb :=
  (C.far g 0 v hb hx hr).far g 1 v' hb hx (fun r h => hr r ((World.cell?_setCell_far _ _ _ _ (fun e => hb e.symm)).symm.trans h))
theorem Fo.far {w w1 : World} {b : Nat} {X : List (En (ByteArray × Int))} (h : Fo w b X w1) {g : Nat} (hg : w.heap.size ≤ g) (hb : b ≠ g) (o : Nat) (v : Value) : Fo w b X (w1.setCell ⟨g, o, none⟩ v) :=
  ⟨(World.cell?_setCell_far _ _ _ _ (fun e => hb e.symm)).trans h.m, fun k a1 a2 a3 a4 => (Below.heap_setCell _ _ _ _ (show k ≠ g by omega)).trans (h.h k a1 a2 a3 a4)⟩
theorem Fo.of {w w1 : World} {b : Nat} {X : List (En (ByteArray × Int))} (h : Below w.heap.size w w1) (hb : b < w.heap.size) : Fo w b X w1 := ⟨h.cell (p := ⟨b, 1, none⟩) hb, fun k a1 _ _ _ => h.block k a1⟩
theorem CA.lts {w : World} {b base : Nat} {most : Int} {X : List (En (ByteArray × Int))} {hits misses nb : Nat} (C : CA w b base most X hits misses nb) : b < w.heap.size ∧ (∀ x ∈ X.map (·.1), x < w.heap.size) ∧ ∀ r, w.cell? ⟨b, 1, none⟩ = some (.map (some r)) → r < w.heap.size := by
  have lt : ∀ {x o v}, w.cell? ⟨x, o, none⟩ = some v → x < w.heap.size := fun h => by have := World.block_lt_of_cell? w _ h; simpa using this
  refine ⟨lt C.m0, fun x hx => ?_, fun r hr => ?_⟩
  · obtain ⟨y, hy, rfl⟩ := List.mem_map.1 hx; exact lt (C.kv y hy).1
  · obtain ⟨r', h1, h2, h3⟩ := C.mp
    rw [hr] at h1; cases h1; exact h3.lt
/-- What Get gives. -/
def GW (b base : Nat) (most : Int) (X : List (En (ByteArray × Int))) (hits misses nb : Nat) (s : ByteArray) (w : World) (e : Ending) (w' : World) : Prop :=
  Below base w w' ∧ Fo w b X w' ∧ ((Ca.look X s = none ∧ e = .returned (.tuple #[.agg #[.string ⟨#[]⟩, .int .i64 0], .bool false]) ∧ CA w' b base most X hits (misses + 1) (nb + 1)) ∨
    ∃ (i : Nat) (x : En (ByteArray × Int)), X[i]? = some x ∧ x.2.1 = s ∧ e = .returned (.tuple #[vl x.2.2, .bool true]) ∧ CA w' b base most (x :: X.eraseIdx i) (hits + 1) misses (nb + 1))
set_option maxRecDepth 100000 in
set_option maxHeartbeats 8000000 in
theorem get1 (b base : Nat) (most : Int) (X : List (En (ByteArray × Int))) (hits misses nb : Nat) (s : ByteArray) (w : World) (C : Hid (CA w b base most X hits misses nb)) (hs : s.size ≤ maxLen) (hnb : nb < 1000) :
    Calls Try.prog 26 #[.pointer (some ⟨b, 0, none⟩), .string s] w (GW b base most X hits misses nb s w) := by
  have BZ := ((Below.refl w.heap.size w).alloc (Nat.le_refl _) (Obj.cells #[Value.string ⟨#[]⟩, Value.int .i64 0] 49)).alloc (by simp) (Obj.cells #[Value.string ⟨#[]⟩, Value.int .i64 0] 49)
  have hl3 := C.out.lts
  have r0 : ((w.alloc (Obj.cells #[Value.string ⟨#[]⟩, Value.int .i64 0] 49)).alloc (Obj.cells #[Value.string ⟨#[]⟩, Value.int .i64 0] 49)).cell? ⟨w.heap.size, 0, none⟩ = some (.string ⟨#[]⟩) := by go_cell
  have r1 : ((w.alloc (Obj.cells #[Value.string ⟨#[]⟩, Value.int .i64 0] 49)).alloc (Obj.cells #[Value.string ⟨#[]⟩, Value.int .i64 0] 49)).cell? ⟨w.heap.size, 1, none⟩ = some (.int .i64 0) := by go_cell
  have q0 : ((w.alloc (Obj.cells #[Value.string ⟨#[]⟩, Value.int .i64 0] 49)).alloc (Obj.cells #[Value.string ⟨#[]⟩, Value.int .i64 0] 49)).cell? ⟨w.heap.size + 1, 0, none⟩ = some (.string ⟨#[]⟩) := by go_cell
  have q1 : ((w.alloc (Obj.cells #[Value.string ⟨#[]⟩, Value.int .i64 0] 49)).alloc (Obj.cells #[Value.string ⟨#[]⟩, Value.int .i64 0] 49)).cell? ⟨w.heap.size + 1, 1, none⟩ = some (.int .i64 0) := by go_cell
  have f0 : ((w.alloc (Obj.cells #[Value.string ⟨#[]⟩, Value.int .i64 0] 49)).alloc (Obj.cells #[Value.string ⟨#[]⟩, Value.int .i64 0] 49)).frozen? ⟨w.heap.size, 0, none⟩ = false := by first | go_cell | simp
  have f1 : ((w.alloc (Obj.cells #[Value.string ⟨#[]⟩, Value.int .i64 0] 49)).alloc (Obj.cells #[Value.string ⟨#[]⟩, Value.int .i64 0] 49)).frozen? ⟨w.heap.size, 1, none⟩ = false := by first | go_cell | simp
  have hzs : ((w.alloc (Obj.cells #[Value.string ⟨#[]⟩, Value.int .i64 0] 49)).alloc (Obj.cells #[Value.string ⟨#[]⟩, Value.int .i64 0] 49)).heap.size = w.heap.size + 2 := by simp
  obtain ⟨z, hz⟩ : ∃ z, (w.alloc (Obj.cells #[Value.string ⟨#[]⟩, Value.int .i64 0] 49)).alloc (Obj.cells #[Value.string ⟨#[]⟩, Value.int .i64 0] 49) = z := ⟨_, rfl⟩
  rw [hz] at BZ r0 r1 q0 q1 f0 f1 hzs
  have CZ := Lib.hid (C.out.keep BZ)
  have FZ : Fo w b X z := Fo.of BZ hl3.1
  have hlo := C.out.lo.1
  have BZ := BZ.mono (show base ≤ w.heap.size by omega)
  have HBZ := Lib.hid BZ
  have HFZ := Lib.hid FZ
  have HL3 := Lib.hid hl3
  have hbg : b ≠ w.heap.size := by omega
  have hbg1 : b ≠ w.heap.size + 1 := by omega
  clear BZ FZ hl3
  obtain ⟨r, h1, h2, h3⟩ := CZ.out.mp
  have CU := Lib.hid (usable_yes b most z CZ.out.m0 CZ.out.mpos)
  have hcn := CZ.out.cnt
  cases hx : Ca.look X s with
  | none =>
    obtain ⟨v, hl⟩ := h3.no (t := 95) Try.underlying95 (zeroPE z) hs hx
    have HX := Lib.hid hx
    have hm := CZ.out.mc
    have zm := CZ.out.zm
    have HE := Lib.hid CZ.out.miss
    have hw : IntKind.i64.wrap ((misses : Int) + 1) = ((misses + 1 : Nat) : Int) := by rw [IntWalk.i64_in _ (by omega)]; simp
    have K : Below base z (z.setCell ⟨b, 5, none⟩ (.int .i64 ((misses + 1 : Nat) : Int))) := (Below.refl _ _).setCell (p := ⟨b, 5, none⟩) CZ.out.lo.1 _
    have HN := Lib.hid (show ((misses : Int) + 1) = ((misses + 1 : Nat) : Int) by simp)
    clear hx h3 hw
    go_enter Try.func26, Try.ntmps26
    go_wp2_with fail
    first | simp only [hz] | skip
    refine CU.out.mono ?_
    rintro e w1 ⟨rfl, rfl⟩
    have a0 : (z.setCell ⟨b, 5, none⟩ (.int .i64 ((misses + 1 : Nat) : Int))).cell? ⟨w.heap.size + 1, 0, none⟩ = some (.string ⟨#[]⟩) := (World.cell?_setCell_far _ _ _ _ hbg1).trans q0
    have a1 : (z.setCell ⟨b, 5, none⟩ (.int .i64 ((misses + 1 : Nat) : Int))).cell? ⟨w.heap.size + 1, 1, none⟩ = some (.int .i64 0) := (World.cell?_setCell_far _ _ _ _ hbg1).trans q1
    have a2 : (z.setCell ⟨b, 5, none⟩ (.int .i64 ((misses + 1 : Nat) : Int))).cell? ⟨w.heap.size, 0, none⟩ = some (.string ⟨#[]⟩) := (World.cell?_setCell_far _ _ _ _ hbg).trans r0
    have a3 : (z.setCell ⟨b, 5, none⟩ (.int .i64 ((misses + 1 : Nat) : Int))).cell? ⟨w.heap.size, 1, none⟩ = some (.int .i64 0) := (World.cell?_setCell_far _ _ _ _ hbg).trans r1
    have a4 : (z.setCell ⟨b, 5, none⟩ (.int .i64 ((misses + 1 : Nat) : Int))).frozen? ⟨w.heap.size, 0, none⟩ = false := by rw [fz_set]; exact f0
    have a5 : (z.setCell ⟨b, 5, none⟩ (.int .i64 ((misses + 1 : Nat) : Int))).frozen? ⟨w.heap.size, 1, none⟩ = false := by rw [fz_set]; exact f1
    go_wp2_with (simp only [hl])
    rw [HN.out]
    have KK := HBZ.out.trans K
    have FF := (HFZ.out.trans (Fo.set z b 5 X (.int .i64 ((misses + 1 : Nat) : Int)) (by decide)) (fun x hx => .inl hx) (by omega))
    have l3 := HE.out.lts
    generalize z.setCell ⟨b, 5, none⟩ (.int .i64 ((misses + 1 : Nat) : Int)) = y at *
    go_wp2
    have d0 : ((y.setCell ⟨w.heap.size, 0, none⟩ (.string ⟨#[]⟩)).setCell ⟨w.heap.size, 1, none⟩ (.int .i64 0)).cell? ⟨w.heap.size, 0, none⟩ = some (.string ⟨#[]⟩) := by
      rw [World.cell?_setCell_other _ _ _ _ (by intro e; injection e with _ e2; cases e2)]; exact World.cell?_setCell_same _ _ _ a2
    have d1 : ((y.setCell ⟨w.heap.size, 0, none⟩ (.string ⟨#[]⟩)).setCell ⟨w.heap.size, 1, none⟩ (.int .i64 0)).cell? ⟨w.heap.size, 1, none⟩ = some (.int .i64 0) :=
      World.cell?_setCell_same _ _ _ ((World.cell?_setCell_other _ _ _ _ (by intro e; injection e with _ e2; cases e2)).trans a3)
    exact bodyPost_ret (v := .tuple #[.agg #[.string ⟨#[]⟩, .int .i64 0], .bool false]) (by simp [results, Try.results26, go_sem, d0, d1]) rfl
      ⟨(KK.setCell (p := ⟨w.heap.size, 0, none⟩) (show base ≤ w.heap.size by have := HL3.out.1; omega) _).setCell (p := ⟨w.heap.size, 1, none⟩) (show base ≤ w.heap.size by have := HL3.out.1; omega) _,
        (FF.far (Nat.le_refl _) hbg 0 _).far (Nat.le_refl _) hbg 1 _,
        .inl ⟨HX.out, rfl, HE.out.far2 w.heap.size _ _ hbg (fun x hx => by have := HL3.out.2.1 x hx; omega) (fun r' hr => by have := HL3.out.2.2 r' (FF.m.symm.trans hr); omega)⟩⟩
  | some e0 =>
    obtain ⟨i, v, hi⟩ := look_some hx
    have hl := h3.yes (t := 95) Try.underlying95 (zeroPE z) hs hx
    have hm := CZ.out.hc
    have zm := CZ.out.zh
    have HE := CZ.out.hit
    have K : Below base z (z.setCell ⟨b, 4, none⟩ (.int .i64 ((hits + 1 : Nat) : Int))) := (Below.refl _ _).setCell (p := ⟨b, 4, none⟩) CZ.out.lo.1 _
    have HN := Lib.hid (show ((hits : Int) + 1) = ((hits + 1 : Nat) : Int) by simp)
    obtain ⟨N, O, H, hch⟩ := HE.ln
    have hB : (X.map (·.1))[i]? = some e0 := by rw [List.getElem?_map, hi]; rfl
    have hs2 := chain_self hch HE.nd hB
    have hs3 := chain_mem hch hB
    have heD : e0 ∈ X.map (·.1) := List.mem_of_getElem? hB
    have CN := Lib.hid (unlink1 b e0 _ N O _ _ _ H heD hs2.1 hs2.2 hs3.1 hs3.2)
    have CP := Lib.hid fun N O h t z H h1 h2 => push1 b e0 (X.map (·.1)) N O h t z H heD h1 h2
    have HCE := Lib.hid HE
    have HCH := Lib.hid hch
    have HI := Lib.hid hi
    have HB := Lib.hid hB
    have HLO := Lib.hid CZ.out.lo
    clear hx h3 H hch hs2 hs3 hi hB HE heD
    go_enter Try.func26, Try.ntmps26
    go_wp2_with fail
    first | simp only [hz] | skip
    refine CU.out.mono ?_
    rintro e w1 ⟨rfl, rfl⟩
    go_wp2_with (first | (simp only [hl]) | fail)
    rw [HN.out]
    refine CN.out.mono ?_
    rintro e w2 ⟨rfl, N1, O1, h1', t1', H1, hU, F1⟩
    have hc1 := chain_un HCH.out HCE.out.nd HB.out hU
    have CP2 := CP.out N1 O1 h1' t1' w2 H1 (by rw [hc1.2.1]; intro h; exact not_mem_erase HCE.out.nd HB.out (List.mem_of_mem_head? h)) (fun z hz => by
      rw [hc1.2.1] at hz
      exact (List.eraseIdx_sublist _ _).mem (List.mem_of_mem_head? hz))
    have CP2 := Lib.hid CP2
    have HU := Lib.hid hU
    have HC1 := Lib.hid hc1
    have HF1 := Lib.hid F1
    clear hU hc1 F1 H1 CP
    go_wp2_with fail
    refine CP2.out.mono ?_
    rintro e w3 ⟨rfl, N2, O2, h2', t2', H2, hP, F2⟩
    have F := HF1.out.trans F2
    have hvv := (HCE.out.kv (e0, s, v) (List.mem_of_getElem? HI.out)).2
    have hv3 : w3.cell? ⟨e0, 1, none⟩ = some (.string v.1) := (F.val e0 (List.mem_of_getElem? HB.out) 1 (by decide) (by decide)).trans hvv.1
    have hv4 : w3.cell? ⟨e0, 2, none⟩ = some (.int .i64 v.2) := (F.val e0 (List.mem_of_getElem? HB.out) 2 (by decide) (by decide)).trans hvv.2
    have hN1e : N1 e0 = none := by rw [HU.out.n]; exact if_pos rfl
    have hc2 := chain_pu (B := (X.map (·.1)).eraseIdx i) (N := N1) (O := O1) HC1.out.1 (nodup_erase HCE.out.nd i) (not_mem_erase HCE.out.nd HB.out) hN1e (by rw [← HC1.out.2.1, ← HC1.out.2.2]; exact hP)
    have hmap : ((e0, s, v) :: X.eraseIdx i).map (·.1) = e0 :: (X.map (·.1)).eraseIdx i := by rw [List.map_cons, map_erase]
    have hXi := HI.out
    have hkk := key_erase HCE.out.nk hXi
    have HF := Lib.hid (HCE.out.links (X' := (e0, s, v) :: X.eraseIdx i) F H2 (fun x hx => by
        rcases List.mem_cons.1 hx with rfl | h
        · exact List.mem_of_getElem? hXi
        · exact mem_erase h) (by rw [hmap]; exact hc2.1) (by rw [hmap]; exact hc2.2.1) (by rw [hmap]; exact hc2.2.2)
      (by have := lt_of hXi; rw [List.length_cons, List.length_eraseIdx, if_pos this]; omega)
      (fun k => by
        rw [look_cons]
        by_cases hk : s = k
        · subst hk; rw [if_pos rfl]; exact look_at HCE.out.nk hXi
        · rw [if_neg hk, look_erase hXi (fun e => hk e.symm)])
      (by rw [hmap, List.nodup_cons]; exact ⟨not_mem_erase HCE.out.nd HB.out, nodup_erase HCE.out.nd i⟩)
      (by rw [List.map_cons, List.nodup_cons]; exact ⟨hkk, keys_erase HCE.out.nk i⟩))
    have KF := K.trans (F.below HLO.out.1 (fun x hx => by obtain ⟨y, hy, rfl⟩ := List.mem_map.1 hx; exact HLO.out.2 y hy))
    have HFO := Lib.hid ((Fo.set z b 4 X (.int .i64 ((hits + 1 : Nat) : Int)) (by decide)).trans (Fo.fr F) (fun x hx => .inl hx) (by simp))
    have HFB := Lib.hid F.far
    clear F F2 H2 hP hvv hN1e hc2 hmap hXi hkk HF1 HC1 HU CP2
    have hxg : ∀ x ∈ X.map (·.1), x ≠ w.heap.size := fun x hx => by have := HL3.out.2.1 x hx; omega
    have hkg := HFB.out w.heap.size (fun e => hbg e.symm) (fun h => hxg _ h rfl)
    have r30 : w3.cell? ⟨w.heap.size, 0, none⟩ = some (.string ⟨#[]⟩) := (World.cell?_of_block (a := ⟨w.heap.size, 0, none⟩) hkg).trans ((World.cell?_setCell_far _ _ _ _ hbg).trans r0)
    have r31 : w3.cell? ⟨w.heap.size, 1, none⟩ = some (.int .i64 0) := (World.cell?_of_block (a := ⟨w.heap.size, 1, none⟩) hkg).trans ((World.cell?_setCell_far _ _ _ _ hbg).trans r1)
    have f30 : w3.frozen? ⟨w.heap.size, 0, none⟩ = false := (World.frozen?_of_block (a := ⟨w.heap.size, 0, none⟩) hkg).trans (by rw [fz_set]; exact f0)
    have f31 : w3.frozen? ⟨w.heap.size, 1, none⟩ = false := (World.frozen?_of_block (a := ⟨w.heap.size, 1, none⟩) hkg).trans (by rw [fz_set]; exact f1)
    have KK := Lib.hid (HBZ.out.trans KF)
    have FF := Lib.hid (HFZ.out.trans HFO.out (fun x hx => .inl hx) (by omega))
    clear hkg KF HFO
    go_wp2
    have d0 : ((w3.setCell ⟨w.heap.size, 0, none⟩ (.string v.1)).setCell ⟨w.heap.size, 1, none⟩ (.int .i64 v.2)).cell? ⟨w.heap.size, 0, none⟩ = some (.string v.1) := by
      rw [World.cell?_setCell_other _ _ _ _ (by intro e; injection e with _ e2; cases e2)]; exact World.cell?_setCell_same _ _ _ r30
    have d1 : ((w3.setCell ⟨w.heap.size, 0, none⟩ (.string v.1)).setCell ⟨w.heap.size, 1, none⟩ (.int .i64 v.2)).cell? ⟨w.heap.size, 1, none⟩ = some (.int .i64 v.2) :=
      World.cell?_setCell_same _ _ _ ((World.cell?_setCell_other _ _ _ _ (by intro e; injection e with _ e2; cases e2)).trans r31)
    exact bodyPost_ret (v := .tuple #[.agg #[.string v.1, .int .i64 v.2], .bool true]) (by simp [results, Try.results26, go_sem, d0, d1]) rfl
      ⟨(KK.out.setCell (p := ⟨w.heap.size, 0, none⟩) (show base ≤ w.heap.size by have := HL3.out.1; omega) _).setCell (p := ⟨w.heap.size, 1, none⟩) (show base ≤ w.heap.size by have := HL3.out.1; omega) _,
        (FF.out.far (Nat.le_refl _) hbg 0 _).far (Nat.le_refl _) hbg 1 _,
        .inr ⟨i, (e0, s, v), HI.out, rfl, rfl, HF.out.far2 w.heap.size _ _ hbg (fun x hx => by
          rw [List.map_cons, List.mem_cons] at hx
          rcases hx with rfl | hx
          · exact hxg _ (List.mem_of_getElem? HB.out)
          · obtain ⟨y, hy, rfl⟩ := List.mem_map.1 hx; exact hxg _ (List.mem_map_of_mem (mem_erase hy))) (fun r' hr => by have := HL3.out.2.2 r' (FF.out.m.symm.trans hr); omega)⟩⟩
end Go.Proofs.Ytlmbjipcdhenlaa.Cp
