/- The cache in memory; Len, Get. -/
import Derived.Test.YtlmbjipcdhenlaaC1i
import Derived.Test.YtlmbjipcdhenlaaCm
namespace Go.Proofs.Ytlmbjipcdhenlaa.Ci
open Go.ChangeShapes Go.WideShapes Go.ChangeAt Go.RowKit
open Go.Proofs.Ytlmbjipcdhenlaa.Ca
set_option linter.unusedVariables false
set_option linter.unusedSimpArgs false
def vl (x : Int) : Value := .int .i64 x
/-- A cache in memory. -/
structure CA (w : World) (b base : Nat) (most : Int) (X : List (En Int)) (hits misses nb : Nat) : Prop where
  m0 : w.cell? ⟨b, 0, none⟩ = some (.int .i64 most)
  mpos : 0 < most
  mp : ∃ r, w.cell? ⟨b, 1, none⟩ = some (.map (some r)) ∧ base ≤ r ∧ MP w r (Ca.look X) X.length nb
  hc : w.cell? ⟨b, 4, none⟩ = some (.int .i64 (hits : Int))
  mc : w.cell? ⟨b, 5, none⟩ = some (.int .i64 (misses : Int))
  zh : w.frozen? ⟨b, 4, none⟩ = false
  zm : w.frozen? ⟨b, 5, none⟩ = false
  ln : ∃ N O, HL w b (X.map (·.1)) N O (X.map (·.1)).head? (X.map (·.1)).getLast? ∧ Chain (X.map (·.1)) N O
  kv : ∀ x ∈ X, w.cell? ⟨x.1, 0, none⟩ = some (.string x.2.1) ∧ w.cell? ⟨x.1, 1, none⟩ = some (vl x.2.2)
  nd : (X.map (·.1)).Nodup
  nk : (X.map (·.2.1)).Nodup
  lo : base ≤ b ∧ ∀ x ∈ X, base ≤ x.1
  sz : ∀ x ∈ X, x.2.1.size ≤ maxLen
  cnt : hits ≤ nb ∧ misses ≤ nb
theorem zeroPE (w : World) : (zeroValue 65).run Try.prog w = .ok (.pointer none) w := by kernel_rfl
theorem HL.own {w : World} {b : Nat} {D : List Nat} {N O : Nat → Option Nat} {h t : Option Nat} (H : HL w b D N O h t) {o : Nat} (h1 : o ≠ 2) (h2 : o ≠ 3) (v : Value) : HL (w.setCell ⟨b, o, none⟩ v) b D N O h t := by
  have hne : ∀ x ∈ D, b ≠ x := fun x hx e => H.nb (e ▸ hx)
  refine ⟨?_, ?_, by rw [fz_set]; exact H.zh, by rw [fz_set]; exact H.zt, fun x hx => ?_, fun x hx => ?_, fun x hx => by rw [fz_set]; exact H.zn x hx, fun x hx => by rw [fz_set]; exact H.zo x hx, H.nb⟩
  · rw [World.cell?_setCell_other _ _ _ _ (by intro e; injection e with _ e2; omega)]; exact H.ch
  · rw [World.cell?_setCell_other _ _ _ _ (by intro e; injection e with _ e2; omega)]; exact H.ct
  · rw [World.cell?_setCell_far _ _ _ _ (hne x hx)]; exact H.n x hx
  · rw [World.cell?_setCell_far _ _ _ _ (hne x hx)]; exact H.o x hx
theorem HL.grown {w w' : World} {b r : Nat} {D : List Nat} {N O : Nat → Option Nat} {h t : Option Nat} (H : HL w b D N O h t) (hg : w.grownBy w' (some r)) (hb : b ≠ r) (hD : ∀ x ∈ D, x ≠ r) : HL w' b D N O h t := by
  have lt : ∀ {x o v}, w.cell? ⟨x, o, none⟩ = some v → x < w.heap.size := fun h => by have := World.block_lt_of_cell? w _ h; simpa using this
  have kb : w'.heap[b]? = w.heap[b]? := hg.block b (lt H.ch) (by simpa using hb)
  have kx : ∀ x ∈ D, w'.heap[x]? = w.heap[x]? := fun x hx => hg.block x (lt (H.n x hx)) (by simpa using hD x hx)
  exact ⟨(World.cell?_of_block (a := ⟨b, 2, none⟩) kb).trans H.ch, (World.cell?_of_block (a := ⟨b, 3, none⟩) kb).trans H.ct, (World.frozen?_of_block (a := ⟨b, 2, none⟩) kb).trans H.zh, (World.frozen?_of_block (a := ⟨b, 3, none⟩) kb).trans H.zt,
    fun x hx => (World.cell?_of_block (a := ⟨x, 2, none⟩) (kx x hx)).trans (H.n x hx), fun x hx => (World.cell?_of_block (a := ⟨x, 3, none⟩) (kx x hx)).trans (H.o x hx), fun x hx => (World.frozen?_of_block (a := ⟨x, 2, none⟩) (kx x hx)).trans (H.zn x hx), fun x hx => (World.frozen?_of_block (a := ⟨x, 3, none⟩) (kx x hx)).trans (H.zo x hx), H.nb⟩
theorem HL.below {w w' : World} {b : Nat} {D : List Nat} {N O : Nat → Option Nat} {h t : Option Nat} (H : HL w b D N O h t) (hg : Below w.heap.size w w') : HL w' b D N O h t := by
  have lt : ∀ {x o v}, w.cell? ⟨x, o, none⟩ = some v → x < w.heap.size := fun h => by have := World.block_lt_of_cell? w _ h; simpa using this
  have kb : w'.heap[b]? = w.heap[b]? := hg.block b (lt H.ch)
  have kx : ∀ x ∈ D, w'.heap[x]? = w.heap[x]? := fun x hx => hg.block x (lt (H.n x hx))
  exact ⟨(World.cell?_of_block (a := ⟨b, 2, none⟩) kb).trans H.ch, (World.cell?_of_block (a := ⟨b, 3, none⟩) kb).trans H.ct, (World.frozen?_of_block (a := ⟨b, 2, none⟩) kb).trans H.zh, (World.frozen?_of_block (a := ⟨b, 3, none⟩) kb).trans H.zt,
    fun x hx => (World.cell?_of_block (a := ⟨x, 2, none⟩) (kx x hx)).trans (H.n x hx), fun x hx => (World.cell?_of_block (a := ⟨x, 3, none⟩) (kx x hx)).trans (H.o x hx), fun x hx => (World.frozen?_of_block (a := ⟨x, 2, none⟩) (kx x hx)).trans (H.zn x hx), fun x hx => (World.frozen?_of_block (a := ⟨x, 3, none⟩) (kx x hx)).trans (H.zo x hx), H.nb⟩
theorem HL.sub {w : World} {b : Nat} {D D' : List Nat} {N O : Nat → Option Nat} {h t : Option Nat} (H : HL w b D N O h t) (hs : ∀ x ∈ D', x ∈ D) : HL w b D' N O h t :=
  ⟨H.ch, H.ct, H.zh, H.zt, fun x hx => H.n x (hs x hx), fun x hx => H.o x (hs x hx), fun x hx => H.zn x (hs x hx), fun x hx => H.zo x (hs x hx), fun hb => H.nb (hs b hb)⟩
theorem CA.keep {w w' : World} {b base : Nat} {most : Int} {X : List (En Int)} {hits misses nb : Nat} (C : CA w b base most X hits misses nb) (hg : Below w.heap.size w w') : CA w' b base most X hits misses nb := by
  have lt : ∀ {x o v}, w.cell? ⟨x, o, none⟩ = some v → x < w.heap.size := fun h => by have := World.block_lt_of_cell? w _ h; simpa using this
  have kb : w'.heap[b]? = w.heap[b]? := hg.block b (lt C.m0)
  obtain ⟨r, h1, h2, h3⟩ := C.mp
  obtain ⟨N, O, H, hch⟩ := C.ln
  exact ⟨(World.cell?_of_block (a := ⟨b, 0, none⟩) kb).trans C.m0, C.mpos, ⟨r, (World.cell?_of_block (a := ⟨b, 1, none⟩) kb).trans h1, h2, h3.heap (hg.block r h3.lt)⟩, (World.cell?_of_block (a := ⟨b, 4, none⟩) kb).trans C.hc, (World.cell?_of_block (a := ⟨b, 5, none⟩) kb).trans C.mc,
    (World.frozen?_of_block (a := ⟨b, 4, none⟩) kb).trans C.zh, (World.frozen?_of_block (a := ⟨b, 5, none⟩) kb).trans C.zm, ⟨N, O, H.below hg, hch⟩, fun x hx => ⟨(World.cell?_of_block (a := ⟨x.1, 0, none⟩) (hg.block x.1 (lt (C.kv x hx).1))).trans (C.kv x hx).1, (World.cell?_of_block (a := ⟨x.1, 1, none⟩) (hg.block x.1 (lt (C.kv x hx).1))).trans (C.kv x hx).2⟩, C.nd, C.nk, C.lo, C.sz, C.cnt⟩
theorem CA.up {w : World} {b base : Nat} {most : Int} {X : List (En Int)} {hits misses nb nb' : Nat} (C : CA w b base most X hits misses nb) (hn : nb ≤ nb') : CA w b base most X hits misses nb' := by
  obtain ⟨r, h1, h2, h3⟩ := C.mp
  exact ⟨C.m0, C.mpos, ⟨r, h1, h2, h3.mono hn⟩, C.hc, C.mc, C.zh, C.zm, C.ln, C.kv, C.nd, C.nk, C.lo, C.sz, by have := C.cnt; omega⟩
/-- The links have turned, and what they are is known. -/
theorem CA.links {w w' : World} {b base : Nat} {most : Int} {X X' : List (En Int)} {hits misses nb : Nat} {N O : Nat → Option Nat} {h t : Option Nat} (C : CA w b base most X hits misses nb) (hF : Fr b (X.map (·.1)) w w') (H : HL w' b (X.map (·.1)) N O h t)
    (hm : ∀ x ∈ X', x ∈ X) (hc : Chain (X'.map (·.1)) N O) (hh : h = (X'.map (·.1)).head?) (ht : t = (X'.map (·.1)).getLast?) (hl : X'.length = X.length) (hk : ∀ s, Ca.look X s = Ca.look X' s) (n1 : (X'.map (·.1)).Nodup) (n2 : (X'.map (·.2.1)).Nodup) : CA w' b base most X' hits misses nb := by
  obtain ⟨r, h1, h2, h3⟩ := C.mp
  have hrb : b ≠ r := h3.ne h1
  have hrD : r ∉ X.map (·.1) := fun hr => by
    obtain ⟨x, hx, e⟩ := List.mem_map.1 hr
    exact h3.ne (C.kv x hx).1 e
  subst hh ht
  exact ⟨(hF.own 0 (by decide) (by decide)).trans C.m0, C.mpos, ⟨r, (hF.own 1 (by decide) (by decide)).trans h1, h2, hl ▸ (h3.heap (hF.far r (fun e => hrb e.symm) hrD)).congr hk⟩, (hF.own 4 (by decide) (by decide)).trans C.hc, (hF.own 5 (by decide) (by decide)).trans C.mc, (hF.fz _).trans C.zh, (hF.fz _).trans C.zm,
    ⟨N, O, H.sub (fun x hx => by obtain ⟨y, hy, rfl⟩ := List.mem_map.1 hx; exact List.mem_map_of_mem (hm y hy)), hc⟩, fun x hx => ⟨(hF.val x.1 (List.mem_map_of_mem (hm x hx)) 0 (by decide) (by decide)).trans (C.kv x (hm x hx)).1, (hF.val x.1 (List.mem_map_of_mem (hm x hx)) 1 (by decide) (by decide)).trans (C.kv x (hm x hx)).2⟩, n1, n2, ⟨C.lo.1, fun x hx => C.lo.2 x (hm x hx)⟩, fun x hx => C.sz x (hm x hx), C.cnt⟩
theorem CA.hit {w : World} {b base : Nat} {most : Int} {X : List (En Int)} {hits misses nb : Nat} (C : CA w b base most X hits misses nb) : CA (w.setCell ⟨b, 4, none⟩ (.int .i64 ((hits + 1 : Nat) : Int))) b base most X (hits + 1) misses (nb + 1) := by
  obtain ⟨r, h1, h2, h3⟩ := C.mp
  obtain ⟨N, O, H, hch⟩ := C.ln
  have hb : ∀ x ∈ X, b ≠ x.1 := fun x hx e => H.nb (e ▸ List.mem_map_of_mem hx)
  exact ⟨(World.cell?_setCell_other _ _ _ _ (by intro e; cases e)).trans C.m0, C.mpos, ⟨r, (World.cell?_setCell_other _ _ _ _ (by intro e; cases e)).trans h1, h2, (h3.mono (Nat.le_succ _)).heap (Below.heap_setCell _ _ _ _ (fun e => h3.ne h1 e.symm))⟩, World.cell?_setCell_same _ _ _ C.hc, (World.cell?_setCell_other _ _ _ _ (by intro e; cases e)).trans C.mc, (fz_set _ _ _ _).trans C.zh, (fz_set _ _ _ _).trans C.zm,
    ⟨N, O, H.own (by decide) (by decide) _, hch⟩, fun x hx => ⟨(World.cell?_setCell_far _ _ _ _ (hb x hx)).trans (C.kv x hx).1, (World.cell?_setCell_far _ _ _ _ (hb x hx)).trans (C.kv x hx).2⟩, C.nd, C.nk, C.lo, C.sz, by have := C.cnt; omega⟩
theorem CA.miss {w : World} {b base : Nat} {most : Int} {X : List (En Int)} {hits misses nb : Nat} (C : CA w b base most X hits misses nb) : CA (w.setCell ⟨b, 5, none⟩ (.int .i64 ((misses + 1 : Nat) : Int))) b base most X hits (misses + 1) (nb + 1) := by
  obtain ⟨r, h1, h2, h3⟩ := C.mp
  obtain ⟨N, O, H, hch⟩ := C.ln
  have hb : ∀ x ∈ X, b ≠ x.1 := fun x hx e => H.nb (e ▸ List.mem_map_of_mem hx)
  exact ⟨(World.cell?_setCell_other _ _ _ _ (by intro e; cases e)).trans C.m0, C.mpos, ⟨r, (World.cell?_setCell_other _ _ _ _ (by intro e; cases e)).trans h1, h2, (h3.mono (Nat.le_succ _)).heap (Below.heap_setCell _ _ _ _ (fun e => h3.ne h1 e.symm))⟩, (World.cell?_setCell_other _ _ _ _ (by intro e; cases e)).trans C.hc, World.cell?_setCell_same _ _ _ C.mc, (fz_set _ _ _ _).trans C.zh, (fz_set _ _ _ _).trans C.zm,
    ⟨N, O, H.own (by decide) (by decide) _, hch⟩, fun x hx => ⟨(World.cell?_setCell_far _ _ _ _ (hb x hx)).trans (C.kv x hx).1, (World.cell?_setCell_far _ _ _ _ (hb x hx)).trans (C.kv x hx).2⟩, C.nd, C.nk, C.lo, C.sz, by have := C.cnt; omega⟩
theorem len1 (b base : Nat) (most : Int) (X : List (En Int)) (hits misses nb : Nat) (w : World) (C : Hid (CA w b base most X hits misses nb)) : Calls Try.prog 34 #[.pointer (some ⟨b, 0, none⟩)] w fun e w' => e = .returned (.int .i64 (X.length : Int)) ∧ w = w' := by
  obtain ⟨r, h1, h2, h3⟩ := C.out.mp
  have CU := Lib.hid (usable_yes b most w C.out.m0 C.out.mpos)
  have hl := h3.len (t := 64) Try.underlying64
  clear h3
  go_enter Try.func34, Try.ntmps34
  go_wp2_with fail
  refine CU.out.mono ?_
  rintro e w1 ⟨rfl, rfl⟩
  go_wp2_with (simp only [hl])
  go_ret
  exact ⟨rfl, rfl⟩
/-- Blocks that are no part of the cache have not turned. -/
structure Fo (w : World) (b : Nat) (X : List (En Int)) (w' : World) : Prop where
  m : w'.cell? ⟨b, 1, none⟩ = w.cell? ⟨b, 1, none⟩
  h : ∀ k, k < w.heap.size → k ≠ b → k ∉ X.map (·.1) → w.cell? ⟨b, 1, none⟩ ≠ some (.map (some k)) → w'.heap[k]? = w.heap[k]?
theorem Fo.refl (w : World) (b : Nat) (X : List (En Int)) : Fo w b X w := ⟨rfl, fun _ _ _ _ _ => rfl⟩
theorem Fo.trans {w w1 w2 : World} {b : Nat} {X X1 : List (En Int)} (h1 : Fo w b X w1) (h2 : Fo w1 b X1 w2) (hX : ∀ x ∈ X1.map (·.1), x ∈ X.map (·.1) ∨ w.heap.size ≤ x) (hs : w.heap.size ≤ w1.heap.size) : Fo w b X w2 :=
  ⟨h2.m.trans h1.m, fun k a1 a2 a3 a4 => (h2.h k (by omega) a2 (fun hk => by rcases hX k hk with h | h; exact a3 h; omega) (by rw [h1.m]; exact a4)).trans (h1.h k a1 a2 a3 a4)⟩
theorem Fo.set (w : World) (b o : Nat) (X : List (En Int)) (v : Value) (ho : o ≠ 1) : Fo w b X (w.setCell ⟨b, o, none⟩ v) :=
  ⟨World.cell?_setCell_other _ _ _ _ (by intro e; injection e with _ e2; omega), fun k _ hk _ _ => Below.heap_setCell _ _ _ _ hk⟩
theorem Fo.fr {w w' : World} {b : Nat} {X : List (En Int)} (h : Fr b (X.map (·.1)) w w') : Fo w b X w' := ⟨h.own 1 (by decide) (by decide), fun k _ a2 a3 _ => h.far k a2 a3⟩
/-- What Get gives. -/
def GW (b base : Nat) (most : Int) (X : List (En Int)) (hits misses nb : Nat) (s : ByteArray) (w : World) (e : Ending) (w' : World) : Prop :=
  Below base w w' ∧ Fo w b X w' ∧ ((Ca.look X s = none ∧ e = .returned (.tuple #[.int .i64 0, .bool false]) ∧ CA w' b base most X hits (misses + 1) (nb + 1)) ∨
    ∃ (i : Nat) (x : En Int), X[i]? = some x ∧ x.2.1 = s ∧ e = .returned (.tuple #[vl x.2.2, .bool true]) ∧ CA w' b base most (x :: X.eraseIdx i) (hits + 1) misses (nb + 1))
set_option maxRecDepth 100000 in
set_option maxHeartbeats 8000000 in
theorem get1 (b base : Nat) (most : Int) (X : List (En Int)) (hits misses nb : Nat) (s : ByteArray) (w : World) (C : Hid (CA w b base most X hits misses nb)) (hs : s.size ≤ maxLen) (hnb : nb < 1000) :
    Calls Try.prog 16 #[.pointer (some ⟨b, 0, none⟩), .string s] w (GW b base most X hits misses nb s w) := by
  obtain ⟨r, h1, h2, h3⟩ := C.out.mp
  have CU := Lib.hid (usable_yes b most w C.out.m0 C.out.mpos)
  have hcn := C.out.cnt
  cases hx : Ca.look X s with
  | none =>
    obtain ⟨v, hl⟩ := h3.no (t := 64) Try.underlying64 (zeroPE w) hs hx
    have HX := Lib.hid hx
    have hm := C.out.mc
    have zm := C.out.zm
    have HE := Lib.hid C.out.miss
    have hw : IntKind.i64.wrap ((misses : Int) + 1) = ((misses + 1 : Nat) : Int) := by rw [IntWalk.i64_in _ (by omega)]; simp
    have K : Below base w (w.setCell ⟨b, 5, none⟩ (.int .i64 ((misses + 1 : Nat) : Int))) := (Below.refl _ _).setCell (p := ⟨b, 5, none⟩) C.out.lo.1 _
    have HN := Lib.hid (show ((misses : Int) + 1) = ((misses + 1 : Nat) : Int) by simp)
    clear hx h3 hw
    go_enter Try.func16, Try.ntmps16
    go_wp2_with fail
    refine CU.out.mono ?_
    rintro e w1 ⟨rfl, rfl⟩
    go_wp2_with (simp only [hl])
    go_ret2
    rw [HN.out]
    exact ⟨K, Fo.set w b 5 X _ (by decide), .inl ⟨HX.out, rfl, HE.out⟩⟩
  | some e0 =>
    obtain ⟨i, v, hi⟩ := look_some hx
    have hl := h3.yes (t := 64) Try.underlying64 (zeroPE w) hs hx
    have hm := C.out.hc
    have zm := C.out.zh
    have HE := C.out.hit
    have K : Below base w (w.setCell ⟨b, 4, none⟩ (.int .i64 ((hits + 1 : Nat) : Int))) := (Below.refl _ _).setCell (p := ⟨b, 4, none⟩) C.out.lo.1 _
    have HN := Lib.hid (show ((hits : Int) + 1) = ((hits + 1 : Nat) : Int) by simp)
    obtain ⟨N, O, H, hch⟩ := HE.ln
    have hB : (X.map (·.1))[i]? = some e0 := by rw [List.getElem?_map, hi]; rfl
    have hs2 := chain_self hch HE.nd hB
    have hs3 := chain_mem hch hB
    have heD : e0 ∈ X.map (·.1) := List.mem_of_getElem? hB
    have CN := Lib.hid (unlink1 b e0 _ N O _ _ _ H heD hs2.1 hs2.2 hs3.1 hs3.2)
    have CP := Lib.hid fun N O h t w H h1 h2 => push1 b e0 (X.map (·.1)) N O h t w H heD h1 h2
    have HCE := Lib.hid HE
    have HCH := Lib.hid hch
    have HI := Lib.hid hi
    have HB := Lib.hid hB
    have HLO := Lib.hid C.out.lo
    clear hx h3 H hch hs2 hs3 hi hB HE heD
    go_enter Try.func16, Try.ntmps16
    go_wp2_with fail
    refine CU.out.mono ?_
    rintro e w1 ⟨rfl, rfl⟩
    go_wp2_with (first | (simp only [hl]) | fail)
    rw [HN.out]
    refine CN.out.mono ?_
    rintro e w2 ⟨rfl, N1, O1, h1', t1', H1, hU, F1⟩
    have hc1 := chain_un HCH.out HCE.out.nd HB.out hU
    have CP2 := CP.out N1 O1 h1' t1' w2 H1 (by rw [hc1.2.1]; intro h; exact not_mem_erase HCE.out.nd HB.out (List.mem_of_mem_head? h)) (fun z hz => by
      rw [hc1.2.1] at hz
      exact (List.eraseIdx_sublist _ _).mem (List.mem_of_mem_head? hz))
    have CP2 := Lib.hid CP2
    have HU := Lib.hid hU
    have HC1 := Lib.hid hc1
    have HF1 := Lib.hid F1
    clear hU hc1 F1 H1 CP
    go_wp2_with fail
    refine CP2.out.mono ?_
    rintro e w3 ⟨rfl, N2, O2, h2', t2', H2, hP, F2⟩
    have F := HF1.out.trans F2
    have hvv := (HCE.out.kv (e0, s, v) (List.mem_of_getElem? HI.out)).2
    have hv3 : w3.cell? ⟨e0, 1, none⟩ = some (vl v) := (F.val e0 (List.mem_of_getElem? HB.out) 1 (by decide) (by decide)).trans hvv
    have hN1e : N1 e0 = none := by rw [HU.out.n]; exact if_pos rfl
    have hc2 := chain_pu (B := (X.map (·.1)).eraseIdx i) (N := N1) (O := O1) HC1.out.1 (nodup_erase HCE.out.nd i) (not_mem_erase HCE.out.nd HB.out) hN1e (by rw [← HC1.out.2.1, ← HC1.out.2.2]; exact hP)
    have hmap : ((e0, s, v) :: X.eraseIdx i).map (·.1) = e0 :: (X.map (·.1)).eraseIdx i := by rw [List.map_cons, map_erase]
    have hXi := HI.out
    have hkk := key_erase HCE.out.nk hXi
    have HF := Lib.hid (HCE.out.links (X' := (e0, s, v) :: X.eraseIdx i) F H2 (fun x hx => by
        rcases List.mem_cons.1 hx with rfl | h
        · exact List.mem_of_getElem? hXi
        · exact mem_erase h) (by rw [hmap]; exact hc2.1) (by rw [hmap]; exact hc2.2.1) (by rw [hmap]; exact hc2.2.2)
      (by have := lt_of hXi; rw [List.length_cons, List.length_eraseIdx, if_pos this]; omega)
      (fun k => by
        rw [look_cons]
        by_cases hk : s = k
        · subst hk; rw [if_pos rfl]; exact look_at HCE.out.nk hXi
        · rw [if_neg hk, look_erase hXi (fun e => hk e.symm)])
      (by rw [hmap, List.nodup_cons]; exact ⟨not_mem_erase HCE.out.nd HB.out, nodup_erase HCE.out.nd i⟩)
      (by rw [List.map_cons, List.nodup_cons]; exact ⟨hkk, keys_erase HCE.out.nk i⟩))
    have KF := K.trans (F.below HLO.out.1 (fun x hx => by obtain ⟨y, hy, rfl⟩ := List.mem_map.1 hx; exact HLO.out.2 y hy))
    have HFO := Lib.hid ((Fo.set w b 4 X (.int .i64 ((hits + 1 : Nat) : Int)) (by decide)).trans (Fo.fr F) (fun x hx => .inl hx) (by simp))
    clear F F2 H2 hP hvv hN1e hc2 hmap hXi hkk HF1 HC1 HU CP2
    unfold vl at hv3
    go_wp2
    go_ret2
    exact ⟨KF, HFO.out, .inr ⟨i, (e0, s, v), HI.out, rfl, rfl, HF.out⟩⟩
end Go.Proofs.Ytlmbjipcdhenlaa.Ci
