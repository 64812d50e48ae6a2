/- The cache in memory; Put. -/
import Derived.Test.YtlmbjipcdhenlaaC3s
namespace Go.Proofs.Ytlmbjipcdhenlaa.Cs
open Go.ChangeShapes Go.WideShapes Go.ChangeAt Go.RowKit
open Go.Proofs.Ytlmbjipcdhenlaa.Ca
set_option linter.unusedVariables false
set_option linter.unusedSimpArgs false
theorem mp_le {w : World} {r : Nat} {M : ByteArray → Option Nat} {c nb : Nat} (h : MP w r M c nb) : c ≤ nb := by
  obtain ⟨n, D, h1, h2, h3, _⟩ := h
  have := h1.size_le
  omega
theorem HL.cons {w : World} {b : Nat} {D : List Nat} {N O : Nat → Option Nat} {h t : Option Nat} (H : HL w b D N O h t) (k : ByteArray) (v : Value) : HL (w.alloc (Obj.cells #[Value.string k, v, Value.pointer none, Value.pointer none] 102)) b (w.heap.size :: D) (upd N w.heap.size none) (upd O w.heap.size none) h t := by
  have BA := (Below.refl w.heap.size w).alloc (Nat.le_refl _) (Obj.cells #[Value.string k, v, Value.pointer none, Value.pointer none] 102)
  have H2 := H.below BA
  have lt : ∀ {x o v}, w.cell? ⟨x, o, none⟩ = some v → x < w.heap.size := fun h => by have := World.block_lt_of_cell? w _ h; simpa using this
  have hb := lt H.ch
  have hx : ∀ x ∈ D, x ≠ w.heap.size := fun x hx => by have := lt (H.n x hx); omega
  refine ⟨H2.ch, H2.ct, H2.zh, H2.zt, fun x hm => ?_, fun x hm => ?_, fun x hm => ?_, fun x hm => ?_, ?_⟩
  · unfold upd
    rcases List.mem_cons.1 hm with rfl | h
    · rw [if_pos rfl]; show _ = some (Value.pointer none); go_cell
    · rw [if_neg (hx x h)]; exact H2.n x h
  · unfold upd
    rcases List.mem_cons.1 hm with rfl | h
    · rw [if_pos rfl]; show _ = some (Value.pointer none); go_cell
    · rw [if_neg (hx x h)]; exact H2.o x h
  · rcases List.mem_cons.1 hm with rfl | h
    · first | go_cell | simp
    · exact H2.zn x h
  · rcases List.mem_cons.1 hm with rfl | h
    · first | go_cell | simp
    · exact H2.zo x h
  · rw [List.mem_cons, not_or]; exact ⟨by omega, H.nb⟩
theorem pu_congr {B : List Nat} {N O N' O' : Nat → Option Nat} (h : Chain B N O) (hn : ∀ x ∈ B, N' x = N x ∧ O' x = O x) : Chain B N' O' := fun i x hx => by
  obtain ⟨h1, h2⟩ := hn x (List.mem_of_getElem? hx)
  rw [h1, h2]; exact h i x hx
/-- The state behind a stored entry. -/
theorem CA.stored {w w1 w3 w4 : World} {b base r : Nat} {most : Int} {X X0 : List (En ByteArray)} {hits misses nb c : Nat} {s : ByteArray} {v : ByteArray} {N1 O1 N4 O4 : Nat → Option Nat} {h1 t1 h4 t4 : Option Nat} (C : CA w b base most X hits misses nb) (hr : w.cell? ⟨b, 1, none⟩ = some (.map (some r))) (hs : s.size ≤ maxLen)
    (F1 : Fr b (X.map (·.1)) w w1) (H1 : HL w1 b (X.map (·.1)) N1 O1 h1 t1) (hc : Chain (X0.map (·.1)) N1 O1) (hh : h1 = (X0.map (·.1)).head?) (ht : t1 = (X0.map (·.1)).getLast?)
    (hm : ∀ x ∈ X0, x ∈ X) (n1 : (X0.map (·.1)).Nodup) (n2 : (X0.map (·.2.1)).Nodup) (hk : s ∉ X0.map (·.2.1)) (hl : ∀ k, k ≠ s → Ca.look X0 k = Ca.look X k) (hcc : c = X0.length + 1)
    (hM : MP w3 r (fun k => if k = s then some w1.heap.size else Ca.look X k) c (nb + 1)) (hG : (w1.alloc (Obj.cells #[Value.string s, Value.string v, Value.pointer none, Value.pointer none] 102)).grownBy w3 (some r))
    (H4 : HL w4 b (w1.heap.size :: X.map (·.1)) N4 O4 h4 t4) (hP : Pu w1.heap.size (upd N1 w1.heap.size none) (upd O1 w1.heap.size none) h1 t1 N4 O4 h4 t4) (F4 : Fr b (w1.heap.size :: X.map (·.1)) w3 w4) :
    CA w4 b base most ((w1.heap.size, s, v) :: X0) hits misses (nb + 1) ∧ w4.cell? ⟨b, 1, none⟩ = some (.map (some r)) ∧ Fo w b X w4 ∧ w.heap.size ≤ w1.heap.size ∧ Below base w w4 := by
  obtain ⟨r', h1', h2, h3⟩ := C.mp
  rw [hr] at h1'
  cases h1'
  have lt1 : ∀ {x o v}, w1.cell? ⟨x, o, none⟩ = some v → x < w1.heap.size := fun h => by have := World.block_lt_of_cell? w1 _ h; simpa using this
  have hrb : b ≠ r := h3.ne hr
  have hrD : ∀ y ∈ X.map (·.1), y ≠ r := fun y hy e => by
    obtain ⟨x, hx, rfl⟩ := List.mem_map.1 hy
    exact h3.ne (C.kv x hx).1 e
  have hrl : r < w1.heap.size := by rw [F1.sz]; exact h3.lt
  have hbl : b < w1.heap.size := lt1 H1.ch
  have hxl : ∀ x ∈ X.map (·.1), x < w1.heap.size := fun x hx => lt1 (H1.n x hx)
  have BA := (Below.refl w1.heap.size w1).alloc (Nat.le_refl _) (Obj.cells #[Value.string s, Value.string v, Value.pointer none, Value.pointer none] 102)
  have k3 : ∀ k, k < w1.heap.size → k ≠ r → w3.heap[k]? = w1.heap[k]? := fun k hk hkr => (hG.block k (by simp; omega) (by simpa using hkr)).trans (BA.block k hk)
  have e3 : w3.heap[w1.heap.size]? = (w1.alloc (Obj.cells #[Value.string s, Value.string v, Value.pointer none, Value.pointer none] 102)).heap[w1.heap.size]? := hG.block _ (by simp) (by simp; omega)
  have hX0D : ∀ x ∈ X0, x.1 ∈ X.map (·.1) := fun x hx => List.mem_map_of_mem (hm x hx)
  have hne : w1.heap.size ∉ X0.map (·.1) := fun h => by
    obtain ⟨x, hx, e⟩ := List.mem_map.1 h
    have := hxl _ (hX0D x hx); omega
  have hcp := chain_pu (B := X0.map (·.1)) (N := upd N1 w1.heap.size none) (O := upd O1 w1.heap.size none) (pu_congr hc (fun x hx => by
    have hx' : x ≠ w1.heap.size := fun e => hne (e ▸ hx)
    unfold upd; rw [if_neg hx', if_neg hx']; exact ⟨rfl, rfl⟩)) n1 hne (by unfold upd; exact if_pos rfl) (by rw [← hh, ← ht]; exact hP)
  have hbn : ∀ o, o ≠ 2 → o ≠ 3 → w4.cell? ⟨b, o, none⟩ = w.cell? ⟨b, o, none⟩ := fun o a1 a2 => (F4.own o a1 a2).trans ((World.cell?_of_block (a := ⟨b, o, none⟩) (k3 b hbl hrb)).trans (F1.own o a1 a2))
  have hbz : ∀ o, w4.frozen? ⟨b, o, none⟩ = w.frozen? ⟨b, o, none⟩ := fun o => (F4.fz _).trans ((World.frozen?_of_block (a := ⟨b, o, none⟩) (k3 b hbl hrb)).trans (F1.fz _))
  have hsz := C.lo.1
  have hsw : w1.heap.size = w.heap.size := F1.sz
  refine ⟨⟨(hbn 0 (by decide) (by decide)).trans C.m0, C.mpos, ⟨r, (hbn 1 (by decide) (by decide)).trans hr, h2, ?_⟩, (hbn 4 (by decide) (by decide)).trans C.hc, (hbn 5 (by decide) (by decide)).trans C.mc, (hbz 4).trans C.zh, (hbz 5).trans C.zm, ⟨N4, O4, ?_, hcp.1⟩, fun x hx => ?_, ?_, ?_, ⟨C.lo.1, fun x hx => ?_⟩, fun x hx => ?_, by have := C.cnt; omega⟩, (hbn 1 (by decide) (by decide)).trans hr, ⟨hbn 1 (by decide) (by decide), fun k a1 a2 a3 a4 => ?_⟩, by omega, ?_⟩
  · rw [List.length_cons, ← hcc]
    refine (hM.heap (F4.far r (fun e => hrb e.symm) (by rw [List.mem_cons, not_or]; exact ⟨by omega, fun h => hrD r h rfl⟩))).congr fun k => ?_
    rw [look_cons]
    by_cases hks : k = s
    · rw [if_pos hks, if_pos hks.symm]
    · rw [if_neg hks, if_neg (fun e => hks e.symm), hl k hks]
  · have := H4.sub (D' := ((w1.heap.size, s, v) :: X0).map (·.1)) (fun x hx => by
      rw [List.map_cons, List.mem_cons] at hx
      rcases hx with rfl | h
      · exact List.mem_cons_self
      · obtain ⟨y, hy, rfl⟩ := List.mem_map.1 h; exact List.mem_cons_of_mem _ (hX0D y hy))
    rw [hcp.2.1, hcp.2.2] at this
    exact this
  · rcases List.mem_cons.1 hx with rfl | h
    · have a0 := F4.val w1.heap.size (by simp) 0 (by decide) (by decide)
      have a1 := F4.val w1.heap.size (by simp) 1 (by decide) (by decide)
      rw [World.cell?_of_block (a := ⟨w1.heap.size, 0, none⟩) e3] at a0
      rw [World.cell?_of_block (a := ⟨w1.heap.size, 1, none⟩) e3] at a1
      exact ⟨a0.trans (by go_cell), a1.trans (by show _ = some (Value.string v); go_cell)⟩
    · have hD := hX0D x h
      have hk3 := k3 x.1 (hxl _ hD) (hrD _ hD)
      exact ⟨(F4.val x.1 (List.mem_cons_of_mem _ hD) 0 (by decide) (by decide)).trans ((World.cell?_of_block (a := ⟨x.1, 0, none⟩) hk3).trans ((F1.val x.1 hD 0 (by decide) (by decide)).trans (C.kv x (hm x h)).1)), (F4.val x.1 (List.mem_cons_of_mem _ hD) 1 (by decide) (by decide)).trans ((World.cell?_of_block (a := ⟨x.1, 1, none⟩) hk3).trans ((F1.val x.1 hD 1 (by decide) (by decide)).trans (C.kv x (hm x h)).2))⟩
  · rw [List.map_cons, List.nodup_cons]; exact ⟨hne, n1⟩
  · rw [List.map_cons, List.nodup_cons]; exact ⟨hk, n2⟩
  · rcases List.mem_cons.1 hx with rfl | h
    · show base ≤ w1.heap.size; omega
    · exact C.lo.2 x (hm x h)
  · rcases List.mem_cons.1 hx with rfl | h
    · exact hs
    · exact C.sz x (hm x h)
  · exact (F4.far k a2 (by rw [List.mem_cons, not_or]; exact ⟨by omega, a3⟩)).trans ((k3 k (by omega) (fun e => a4 (by rw [e]; exact hr))).trans (F1.far k a2 a3))
  · have B1 := F1.below (base := base) C.lo.1 (fun x hx => by obtain ⟨y, hy, rfl⟩ := List.mem_map.1 hx; exact C.lo.2 y hy)
    have B2 := B1.alloc (show base ≤ w1.heap.size by omega) (Obj.cells #[Value.string s, Value.string v, Value.pointer none, Value.pointer none] 102)
    have B3 := B2.grown hG (by simp; omega) (fun q hq => by cases hq; exact h2)
    exact B3.trans (F4.below C.lo.1 (fun x hx => by
      rcases List.mem_cons.1 hx with rfl | h
      · omega
      · obtain ⟨y, hy, rfl⟩ := List.mem_map.1 h; exact C.lo.2 y hy))
theorem CA.drew {w : World} {b base : Nat} {most : Int} {X : List (En ByteArray)} {hits misses nb : Nat} (C : CA w b base most X hits misses nb) : CA w.drew b base most X hits misses nb := C.keep ((Below.refl _ _).drew)
theorem last_of {X : List (En ByteArray)} (h : 0 < X.length) : ∃ x, X[X.length - 1]? = some x ∧ (X.map (·.1)).getLast? = some x.1 := by
  have hx : X[X.length - 1]? = some X[X.length - 1] := List.getElem?_eq_getElem (by omega)
  refine ⟨_, hx, ?_⟩
  rw [List.getLast?_eq_getElem?, List.getElem?_map, List.length_map, hx]
  rfl
theorem keys_inj {X : List (En ByteArray)} (hn : (X.map (·.2.1)).Nodup) {i j : Nat} {x y : En ByteArray} (hi : X[i]? = some x) (hj : X[j]? = some y) (h : x.2.1 = y.2.1) : i = j := by
  have h1 : (X.map (·.2.1))[i]? = some y.2.1 := by rw [List.getElem?_map, hi]; show some x.2.1 = _; rw [h]
  have h2 : (X.map (·.2.1))[j]? = some y.2.1 := by rw [List.getElem?_map, hj]; rfl
  exact (List.getElem?_inj (by have := lt_of hi; simpa using this) hn).1 (h1.trans h2.symm)
/-- What Put gives. -/
def PUW (b base : Nat) (most : Int) (X : List (En ByteArray)) (hits misses nb : Nat) (s : ByteArray) (v : ByteArray) (w : World) (e : Ending) (w' : World) : Prop :=
  Below base w w' ∧ Fo w b X w' ∧ ∃ (X0 : List (En ByteArray)) (e0 : Nat), w.heap.size ≤ e0 ∧ ((Ca.look X s = none ∧ X0 = X) ∨ ∃ (i : Nat) (x : En ByteArray), X[i]? = some x ∧ x.2.1 = s ∧ X0 = X.eraseIdx i) ∧
    (((X0.length : Int) + 1 ≤ most ∧ e = .returned (.bool false) ∧ CA w' b base most ((e0, s, v) :: X0) hits misses (nb + 1)) ∨
     (most < (X0.length : Int) + 1 ∧ e = .returned (.bool true) ∧ CA w' b base most (((e0, s, v) :: X0).eraseIdx X0.length) hits misses (nb + 1)))
set_option maxRecDepth 100000 in
set_option maxHeartbeats 16000000 in
theorem put1 (b base : Nat) (most : Int) (X : List (En ByteArray)) (hits misses nb : Nat) (s : ByteArray) (v : ByteArray) (w : World) (C : Hid (CA w b base most X hits misses nb)) (hs : s.size ≤ maxLen) (hnb : nb < 900) (hm2 : most ≤ 1024) :
    Calls Try.prog 27 #[.pointer (some ⟨b, 0, none⟩), .string s, .string v] w (PUW b base most X hits misses nb s v w) := by
  obtain ⟨r, h1, h2, h3⟩ := C.out.mp
  have CU := Lib.hid (usable_yes b most w C.out.m0 C.out.mpos)
  have hrb : b ≠ r := h3.ne h1
  have HRD := Lib.hid (show ∀ y ∈ X.map (·.1), y ≠ r from fun y hy e => by
    obtain ⟨x, hx, rfl⟩ := List.mem_map.1 hy
    exact h3.ne (C.out.kv x hx).1 e)
  have HR := Lib.hid h1
  have HM := Lib.hid h3
  have hrl := h3.lt
  cases hx : Ca.look X s with
  | none =>
    obtain ⟨v9, hl⟩ := h3.no (t := 91) Try.underlying91 (zeroPE w) hs hx
    obtain ⟨N1, O1, H1, hch⟩ := C.out.ln
    have HST := Lib.hid fun (w3 w4 : World) (N4 O4 : Nat → Option Nat) (h4 t4 : Option Nat) hM hG H4 hP F4 => C.out.stored (w1 := w) (w3 := w3) (w4 := w4) (X0 := X) (s := s) (v := v) (c := X.length + 1) (N4 := N4) (O4 := O4) (h4 := h4) (t4 := t4) h1 hs (Fr.refl _ _ _) H1 hch rfl rfl (fun x h => h) C.out.nd C.out.nk (look_none.1 hx) (fun k _ => rfl) rfl hM hG H4 hP F4
    have HX0 := Lib.hid (show (Ca.look X s = none ∧ X = X) ∨ ∃ (i : Nat) (x : En ByteArray), X[i]? = some x ∧ x.2.1 = s ∧ X = X.eraseIdx i from .inl ⟨hx, rfl⟩)
    have HX := Lib.hid (show (if (Ca.look X s).isSome then X.length else X.length + 1) = X.length + 1 by rw [hx]; rfl)
    have HH1 := Lib.hid H1
    have HB1 := Lib.hid h1
    have hb1 := h1
    have hM1 := h3
    obtain ⟨X0, hX0⟩ : ∃ X0, X = X0 := ⟨_, rfl⟩
    have HLX := Lib.hid (show X.length + 1 = X0.length + 1 by rw [hX0])
    have HXX := Lib.hid hX0
    have HNO := Lib.hid hx
    clear hx h3 H1 hch hX0
    go_enter Try.func27, Try.ntmps27
    go_wp2_with fail
    refine CU.out.mono ?_
    rintro e w1 ⟨rfl, rfl⟩
    skip
    have H2 := HH1.out.cons s (.string v)
    have hM2 := hM1.heap (w' := w.alloc (Obj.cells #[Value.string s, Value.string v, Value.pointer none, Value.pointer none] 102)) (((Below.refl w.heap.size w).alloc (Nat.le_refl _) (Obj.cells #[Value.string s, Value.string v, Value.pointer none, Value.pointer none] 102)).block r hM1.lt)
    obtain ⟨w3, hup, hM3, hG3⟩ := hM2.put (t := 91) Try.underlying91 (by omega) hs w.heap.size
    rw [HX.out] at hM3
    have hbl : b < w.heap.size := by have := World.block_lt_of_cell? w _ hb1; simpa using this
    have hrl2 := hM1.lt
    have H3 := H2.grown hG3 hrb (fun x hx => by
      rcases List.mem_cons.1 hx with rfl | h
      · omega
      · exact HRD.out x h)
    have hh1 : ∀ z, (X.map (·.1)).head? = some z → z ∈ w.heap.size :: X.map (·.1) := fun z hz => List.mem_cons_of_mem _ (List.mem_of_mem_head? hz)
    have hh2 : (X.map (·.1)).head? ≠ some w.heap.size := fun h => by
      have hm9 : w.heap.size ∈ X.map (·.1) := List.mem_of_mem_head? h
      have := World.block_lt_of_cell? w _ (HH1.out.n _ hm9)
      simp at this
    have CP := Lib.hid (push1 b w.heap.size (w.heap.size :: X.map (·.1)) _ _ _ _ w3 H3 (by simp) hh2 hh1)
    have b2 : (w.alloc (Obj.cells #[Value.string s, Value.string v, Value.pointer none, Value.pointer none] 102)).cell? ⟨b, 1, none⟩ = some (.map (some r)) := (((Below.refl w.heap.size w).alloc (Nat.le_refl _) (Obj.cells #[Value.string s, Value.string v, Value.pointer none, Value.pointer none] 102)).cell (p := ⟨b, 1, none⟩) hbl).trans HB1.out
    have HM3 := Lib.hid hM3
    have HG3 := Lib.hid hG3
    have HBL := Lib.hid hbl
    clear H2 hM2 hM3 hG3 H3 hh1 hh2 hM1 hbl hrl2 HH1
    go_wp2_with (first | (simp only [hl]) | (simp only [hup]))
    refine CP.out.mono ?_
    rintro e w4 ⟨rfl, N4, O4, h4, t4, H4, hP, F4⟩
    obtain ⟨hCA, hb4, hFo, hsz4, hBl⟩ := HST.out w3 w4 N4 O4 h4 t4 HM3.out HG3.out H4 hP F4
    rw [HXX.out] at hCA
    have HX1 := Lib.hid (show (Ca.look X s = none ∧ X0 = X) ∨ ∃ (i : Nat) (x : En ByteArray), X[i]? = some x ∧ x.2.1 = s ∧ X0 = X.eraseIdx i from .inl ⟨HNO.out, HXX.out.symm⟩)
    have h40 := hCA.m0
    have hln : ∀ ty, (Builtin.len_ #[91] ty #[.map (some r)]).run Try.prog w4.drew = .ok (.int .i64 ((X0.length : Int) + 1)) w4.drew := by
      obtain ⟨r', q1, q2, q3⟩ := hCA.mp
      rw [hb4] at q1
      cases q1
      have := (q3.heap (w' := w4.drew) rfl).len (t := 91) Try.underlying91
      rw [List.length_cons] at this
      simpa using this
    obtain ⟨xl, hxl, hgl⟩ := last_of (X := ((w.heap.size, s, v) :: X0)) (by simp)
    obtain ⟨N5, O5, H5, hc5⟩ := hCA.ln
    have h43 := H5.ct
    rw [hgl] at h43
    simp only [pt] at h43
    have hxl0 := (hCA.kv xl (List.mem_of_getElem? hxl)).1
    have CR := Lib.hid (remove1 b base most _ hits misses (nb + 1) xl.2.1 w4.drew (Lib.hid hCA.drew) (hCA.sz xl (List.mem_of_getElem? hxl)))
    have HB4 := Lib.hid (show w.heap.size ≤ w4.heap.size from by have h9 := F4.sz; have h8 := HG3.out.size; simp at h8; omega)
    have HCA := Lib.hid hCA
    have HFo := Lib.hid hFo
    have HSZ := Lib.hid hsz4
    clear hFo hsz4
    have HBl := Lib.hid hBl
    have HXL := Lib.hid hxl
    obtain ⟨xb, xk, xv⟩ := xl
    simp only at h43 hxl0 CR
    have hX0n : X0.length ≤ 2000 := by
      have := HLX.out
      have h9 := mp_le (HM.out)
      omega
    clear hCA hBl H4 hP F4 H5 hc5 hgl hxl HST HM3 HG3 CP hup
    go_wp2_with fail
    have hz9 : w4.drew.cell? ⟨b, 0, none⟩ = some (.int .i64 most) ∧ w4.drew.cell? ⟨b, 1, none⟩ = some (.map (some r)) ∧ (∀ ty, (Builtin.len_ #[91] ty #[.map (some r)]).run Try.prog w4.drew = .ok (.int .i64 ((X0.length : Int) + 1)) w4.drew) := ⟨h40, hb4, hln⟩
    refine Rk.begin (S := fun wS => wS.cell? ⟨b, 0, none⟩ = some (.int .i64 most) ∧ wS.cell? ⟨b, 1, none⟩ = some (.map (some r)) ∧ (∀ ty, (Builtin.len_ #[91] ty #[.map (some r)]).run Try.prog wS = .ok (.int .i64 ((X0.length : Int) + 1)) wS)) 9 (by kernel_rfl) hz9 (fun hHeld => ?_)
    refine Rk.takeP (i := 0) (v := ?_) rfl (by kernel_rfl) (by kernel_rfl) (by kernel_rfl) (by kernel_rfl) (fun _ _ _ h => h) (Or.inl ⟨by kernel_rfl, ?_⟩) (by assumption) ?_
    rotate_left
    · ((intro w hSw; go_simp) <;> with_reducible rfl)
    try simp only [Act.put, List.setIfInBounds_toArray, List.set_cons_zero, List.set_cons_succ]
    refine Rk.takeP (i := 1) (v := ?_) rfl (by kernel_rfl) (by kernel_rfl) (by kernel_rfl) (by kernel_rfl) (fun _ _ _ h => h) (Or.inl ⟨by kernel_rfl, ?_⟩) (by assumption) ?_
    rotate_left
    · ((intro w hSw; go_simp) <;> with_reducible rfl)
    try simp only [Act.put, List.setIfInBounds_toArray, List.set_cons_zero, List.set_cons_succ]
    refine Rk.takeP (i := 2) (v := ?_) rfl (by kernel_rfl) (by kernel_rfl) (by kernel_rfl) (by kernel_rfl) (fun _ _ _ h => h) (Or.inl ⟨by kernel_rfl, ?_⟩) (by assumption) ?_
    rotate_left
    · ((intro w hSw; go_simp) <;> with_reducible rfl)
    try simp only [Act.put, List.setIfInBounds_toArray, List.set_cons_zero, List.set_cons_succ]
    refine Rk.take [4, 9] (i := 3) (v := ?_) rfl (by kernel_rfl) (by kernel_rfl) (by kernel_rfl) (by kernel_rfl) (by kernel_rfl) (fun _ _ _ h => h) (Or.inl ⟨by kernel_rfl, ?_⟩) (by assumption) ?_
    rotate_left
    · ((intro w hSw; (try dsimp only at hSw); go_simp) <;> with_reducible rfl)
    try simp only [Act.put, List.setIfInBounds_toArray, List.set_cons_zero, List.set_cons_succ]
    refine Rk.take [9] (i := 4) (v := ?_) rfl (by kernel_rfl) (by kernel_rfl) (by kernel_rfl) (by kernel_rfl) (by kernel_rfl) (fun _ _ _ h => h) (Or.inl ⟨by kernel_rfl, ?_⟩) (by assumption) ?_
    rotate_left
    · ((intro w hSw; (try dsimp only at hSw); go_simp) <;> with_reducible rfl)
    try simp only [Act.put, List.setIfInBounds_toArray, List.set_cons_zero, List.set_cons_succ]
    refine Rk.takeP (i := 5) (v := ?_) rfl (by kernel_rfl) (by kernel_rfl) (by kernel_rfl) (by kernel_rfl) (fun _ _ _ h => h) (Or.inl ⟨by kernel_rfl, ?_⟩) (by assumption) ?_
    rotate_left
    · ((intro w hSw; go_simp) <;> with_reducible rfl)
    try simp only [Act.put, List.setIfInBounds_toArray, List.set_cons_zero, List.set_cons_succ]
    refine Rk.takeP (i := 6) (v := ?_) rfl (by kernel_rfl) (by kernel_rfl) (by kernel_rfl) (by kernel_rfl) (fun _ _ _ h => h) (Or.inl ⟨by kernel_rfl, ?_⟩) (by assumption) ?_
    rotate_left
    · ((intro w hSw; go_simp) <;> with_reducible rfl)
    try simp only [Act.put, List.setIfInBounds_toArray, List.set_cons_zero, List.set_cons_succ]
    refine Rk.takeP (i := 7) (v := ?_) rfl (by kernel_rfl) (by kernel_rfl) (by kernel_rfl) (by kernel_rfl) (fun _ _ _ h => h) (Or.inl ⟨by kernel_rfl, ?_⟩) (by assumption) ?_
    rotate_left
    · ((intro w hSw; go_simp) <;> with_reducible rfl)
    try simp only [Act.put, List.setIfInBounds_toArray, List.set_cons_zero, List.set_cons_succ]
    refine Rk.take [9] (i := 8) (v := ?_) rfl (by kernel_rfl) (by kernel_rfl) (by kernel_rfl) (by kernel_rfl) (by kernel_rfl) (fun _ _ _ h => h) (Or.inl ⟨by kernel_rfl, ?_⟩) (by assumption) ?_
    rotate_left
    · ((intro w hSw; (try dsimp only at hSw); go_simp) <;> with_reducible rfl)
    try simp only [Act.put, List.setIfInBounds_toArray, List.set_cons_zero, List.set_cons_succ]
    refine Rk.tail [9] [_] (by kernel_rfl) (by kernel_rfl) rfl (by decide) ?_
    clear hHeld hz9
    by_cases hle : (X0.length : Int) + 1 ≤ most
    · have hd : decide ((X0.length : Int) + 1 ≤ most) = true := decide_eq_true hle
      have HLE := Lib.hid hle
      clear hle
      go_wp2
      go_ret
      exact ⟨HBl.out.trans (Below.refl _ _).drew, ⟨HFo.out.m, HFo.out.h⟩, X0, w.heap.size, HSZ.out, HX1.out, .inl ⟨HLE.out, rfl, HCA.out.drew⟩⟩
    · have hd : decide ((X0.length : Int) + 1 ≤ most) = false := decide_eq_false hle
      have HLE := Lib.hid hle
      clear hle
      go_wp2_with fail
      refine CR.out.mono ?_
      rintro e w5 ⟨hb5, hfo5, hor⟩
      rcases hor with ⟨hno, _, _⟩ | ⟨i5, x5, hi5, hk5, rfl, hC5⟩
      · exact absurd (look_at HCA.out.nk HXL.out) (by rw [hno]; simp)
      · have hii := keys_inj HCA.out.nk hi5 HXL.out hk5
        rw [List.length_cons] at hii
        have HFO5 := Lib.hid (Fo.trans (w1 := w4.drew) ⟨HFo.out.m, HFo.out.h⟩ hfo5 (fun x hx => by
          rw [List.map_cons, List.mem_cons] at hx
          rcases hx with rfl | h
          · exact .inr HSZ.out
          · refine .inl ?_
            obtain ⟨y, hy, rfl⟩ := List.mem_map.1 h
            rcases HX1.out with ⟨_, h9⟩ | ⟨i9, x9, _, _, h9⟩
            · rw [h9] at hy; exact List.mem_map_of_mem hy
            · rw [h9] at hy; exact List.mem_map_of_mem (mem_erase hy)) (by show w.heap.size ≤ w4.heap.size; exact HB4.out))
        clear hfo5
        have hii2 : i5 = X0.length := by omega
        rw [hii2] at hC5
        have HC5 := Lib.hid hC5
        clear hC5 hii hii2 hi5 hk5
        go_wp2
        go_ret
        exact ⟨(HBl.out.trans (Below.refl _ _).drew).trans (hb5), HFO5.out, X0, w.heap.size, HSZ.out, HX1.out, .inr ⟨by have := HLE.out; omega, rfl, HC5.out⟩⟩
  | some e0 =>
    obtain ⟨i, v8, hi⟩ := look_some hx
    have hl := h3.yes (t := 91) Try.underlying91 (zeroPE w) hs hx
    obtain ⟨N, O, H, hch⟩ := C.out.ln
    have hB : (X.map (·.1))[i]? = some e0 := by rw [List.getElem?_map, hi]; rfl
    have hs2 := chain_self hch C.out.nd hB
    have hs3 := chain_mem hch hB
    have CN := Lib.hid (unlink1 b e0 _ N O _ _ w H (List.mem_of_getElem? hB) hs2.1 hs2.2 hs3.1 hs3.2)
    have HCH := Lib.hid hch
    have HI := Lib.hid hi
    have HB := Lib.hid hB
    have HX0 := Lib.hid (show (Ca.look X s = none ∧ X.eraseIdx i = X) ∨ ∃ (i' : Nat) (x : En ByteArray), X[i']? = some x ∧ x.2.1 = s ∧ X.eraseIdx i = X.eraseIdx i' from .inr ⟨i, _, hi, rfl, rfl⟩)
    have HX := Lib.hid (show (if (Ca.look X s).isSome then X.length else X.length + 1) = X.length by rw [hx]; rfl)
    have HLX := Lib.hid (show X.length = (X.eraseIdx i).length + 1 by have := lt_of hi; rw [List.length_eraseIdx, if_pos this]; omega)
    clear hx h3 H hch hs2 hs3 hi hB
    go_enter Try.func27, Try.ntmps27
    go_wp2_with fail
    refine CU.out.mono ?_
    rintro e w9 ⟨rfl, rfl⟩
    go_wp2_with (first | (simp only [hl]) | fail)
    refine CN.out.mono ?_
    rintro e w1 ⟨rfl, N1, O1, h1', t1', H1, hU, F1⟩
    have hc1 := chain_un HCH.out C.out.nd HB.out hU
    have HST := Lib.hid fun (w3 w4 : World) (N4 O4 : Nat → Option Nat) (h4 t4 : Option Nat) hM hG H4 hP F4 => C.out.stored (w1 := w1) (w3 := w3) (w4 := w4) (X0 := X.eraseIdx i) (s := s) (v := v) (c := X.length) (N4 := N4) (O4 := O4) (h4 := h4) (t4 := t4) HR.out hs F1 H1 (by rw [map_erase]; exact hc1.1) (by rw [map_erase]; exact hc1.2.1) (by rw [map_erase]; exact hc1.2.2) (fun x h => mem_erase h) (by rw [map_erase]; exact nodup_erase C.out.nd i) (keys_erase C.out.nk i) (key_erase C.out.nk HI.out) (fun k hk => look_erase HI.out hk) HLX.out hM hG H4 hP F4
    have HH1 := Lib.hid H1
    have hb1 := (F1.own 1 (by decide) (by decide)).trans h1
    have HB1 := Lib.hid hb1
    have HHEAD := Lib.hid hc1.2.1
    have hM1 := HM.out.heap (F1.far r (fun e => hrb e.symm) (fun h => HRD.out r h rfl))
    have hrl1 : r < w1.heap.size := by rw [F1.sz]; exact hrl
    obtain ⟨X0, hX0⟩ : ∃ X0, X.eraseIdx i = X0 := ⟨_, rfl⟩
    rw [hX0] at HST HX0 HLX
    clear hc1 hU F1 H1 hX0 h1 CN
    have H2 := HH1.out.cons s (.string v)
    have hM2 := hM1.heap (w' := w1.alloc (Obj.cells #[Value.string s, Value.string v, Value.pointer none, Value.pointer none] 102)) (((Below.refl w1.heap.size w1).alloc (Nat.le_refl _) (Obj.cells #[Value.string s, Value.string v, Value.pointer none, Value.pointer none] 102)).block r hM1.lt)
    obtain ⟨w3, hup, hM3, hG3⟩ := hM2.put (t := 91) Try.underlying91 (by omega) hs w1.heap.size
    rw [HX.out] at hM3
    have hbl : b < w1.heap.size := by have := World.block_lt_of_cell? w1 _ hb1; simpa using this
    have hrl2 := hM1.lt
    have H3 := H2.grown hG3 hrb (fun x hx => by
      rcases List.mem_cons.1 hx with rfl | h
      · omega
      · exact HRD.out x h)
    have hh1 : ∀ z, h1' = some z → z ∈ w1.heap.size :: X.map (·.1) := fun z hz => List.mem_cons_of_mem _ (by rw [HHEAD.out] at hz; exact (List.eraseIdx_sublist _ _).mem (List.mem_of_mem_head? hz))
    have hh2 : h1' ≠ some w1.heap.size := fun h => by
      have hm9 : w1.heap.size ∈ X.map (·.1) := by rw [HHEAD.out] at h; exact (List.eraseIdx_sublist _ _).mem (List.mem_of_mem_head? h)
      have := World.block_lt_of_cell? w1 _ (HH1.out.n _ hm9)
      simp at this
    have CP := Lib.hid (push1 b w1.heap.size (w1.heap.size :: X.map (·.1)) _ _ _ _ w3 H3 (by simp) hh2 hh1)
    have b2 : (w1.alloc (Obj.cells #[Value.string s, Value.string v, Value.pointer none, Value.pointer none] 102)).cell? ⟨b, 1, none⟩ = some (.map (some r)) := (((Below.refl w1.heap.size w1).alloc (Nat.le_refl _) (Obj.cells #[Value.string s, Value.string v, Value.pointer none, Value.pointer none] 102)).cell (p := ⟨b, 1, none⟩) hbl).trans HB1.out
    have HM3 := Lib.hid hM3
    have HG3 := Lib.hid hG3
    have HBL := Lib.hid hbl
    clear H2 hM2 hM3 hG3 H3 hh1 hh2 hM1 hbl hrl2 HH1
    go_wp2_with (simp only [hup])
    refine CP.out.mono ?_
    rintro e w4 ⟨rfl, N4, O4, h4, t4, H4, hP, F4⟩
    obtain ⟨hCA, hb4, hFo, hsz4, hBl⟩ := HST.out w3 w4 N4 O4 h4 t4 HM3.out HG3.out H4 hP F4
    have HX1 := HX0
    have h40 := hCA.m0
    have hln : ∀ ty, (Builtin.len_ #[91] ty #[.map (some r)]).run Try.prog w4.drew = .ok (.int .i64 ((X0.length : Int) + 1)) w4.drew := by
      obtain ⟨r', q1, q2, q3⟩ := hCA.mp
      rw [hb4] at q1
      cases q1
      have := (q3.heap (w' := w4.drew) rfl).len (t := 91) Try.underlying91
      rw [List.length_cons] at this
      simpa using this
    obtain ⟨xl, hxl, hgl⟩ := last_of (X := ((w1.heap.size, s, v) :: X0)) (by simp)
    obtain ⟨N5, O5, H5, hc5⟩ := hCA.ln
    have h43 := H5.ct
    rw [hgl] at h43
    simp only [pt] at h43
    have hxl0 := (hCA.kv xl (List.mem_of_getElem? hxl)).1
    have CR := Lib.hid (remove1 b base most _ hits misses (nb + 1) xl.2.1 w4.drew (Lib.hid hCA.drew) (hCA.sz xl (List.mem_of_getElem? hxl)))
    have HB4 := Lib.hid (show w.heap.size ≤ w4.heap.size from by have h9 := F4.sz; have h8 := HG3.out.size; simp at h8; omega)
    have HCA := Lib.hid hCA
    have HFo := Lib.hid hFo
    have HSZ := Lib.hid hsz4
    clear hFo hsz4
    have HBl := Lib.hid hBl
    have HXL := Lib.hid hxl
    obtain ⟨xb, xk, xv⟩ := xl
    simp only at h43 hxl0 CR
    have hX0n : X0.length ≤ 2000 := by
      have := HLX.out
      have h9 := mp_le (HM.out)
      omega
    clear hCA hBl H4 hP F4 H5 hc5 hgl hxl HST HM3 HG3 CP hup
    go_wp2_with fail
    have hz9 : w4.drew.cell? ⟨b, 0, none⟩ = some (.int .i64 most) ∧ w4.drew.cell? ⟨b, 1, none⟩ = some (.map (some r)) ∧ (∀ ty, (Builtin.len_ #[91] ty #[.map (some r)]).run Try.prog w4.drew = .ok (.int .i64 ((X0.length : Int) + 1)) w4.drew) := ⟨h40, hb4, hln⟩
    refine Rk.begin (S := fun wS => wS.cell? ⟨b, 0, none⟩ = some (.int .i64 most) ∧ wS.cell? ⟨b, 1, none⟩ = some (.map (some r)) ∧ (∀ ty, (Builtin.len_ #[91] ty #[.map (some r)]).run Try.prog wS = .ok (.int .i64 ((X0.length : Int) + 1)) wS)) 9 (by kernel_rfl) hz9 (fun hHeld => ?_)
    refine Rk.takeP (i := 0) (v := ?_) rfl (by kernel_rfl) (by kernel_rfl) (by kernel_rfl) (by kernel_rfl) (fun _ _ _ h => h) (Or.inl ⟨by kernel_rfl, ?_⟩) (by assumption) ?_
    rotate_left
    · ((intro w hSw; go_simp) <;> with_reducible rfl)
    try simp only [Act.put, List.setIfInBounds_toArray, List.set_cons_zero, List.set_cons_succ]
    refine Rk.takeP (i := 1) (v := ?_) rfl (by kernel_rfl) (by kernel_rfl) (by kernel_rfl) (by kernel_rfl) (fun _ _ _ h => h) (Or.inl ⟨by kernel_rfl, ?_⟩) (by assumption) ?_
    rotate_left
    · ((intro w hSw; go_simp) <;> with_reducible rfl)
    try simp only [Act.put, List.setIfInBounds_toArray, List.set_cons_zero, List.set_cons_succ]
    refine Rk.takeP (i := 2) (v := ?_) rfl (by kernel_rfl) (by kernel_rfl) (by kernel_rfl) (by kernel_rfl) (fun _ _ _ h => h) (Or.inl ⟨by kernel_rfl, ?_⟩) (by assumption) ?_
    rotate_left
    · ((intro w hSw; go_simp) <;> with_reducible rfl)
    try simp only [Act.put, List.setIfInBounds_toArray, List.set_cons_zero, List.set_cons_succ]
    refine Rk.take [4, 9] (i := 3) (v := ?_) rfl (by kernel_rfl) (by kernel_rfl) (by kernel_rfl) (by kernel_rfl) (by kernel_rfl) (fun _ _ _ h => h) (Or.inl ⟨by kernel_rfl, ?_⟩) (by assumption) ?_
    rotate_left
    · ((intro w hSw; (try dsimp only at hSw); go_simp) <;> with_reducible rfl)
    try simp only [Act.put, List.setIfInBounds_toArray, List.set_cons_zero, List.set_cons_succ]
    refine Rk.take [9] (i := 4) (v := ?_) rfl (by kernel_rfl) (by kernel_rfl) (by kernel_rfl) (by kernel_rfl) (by kernel_rfl) (fun _ _ _ h => h) (Or.inl ⟨by kernel_rfl, ?_⟩) (by assumption) ?_
    rotate_left
    · ((intro w hSw; (try dsimp only at hSw); go_simp) <;> with_reducible rfl)
    try simp only [Act.put, List.setIfInBounds_toArray, List.set_cons_zero, List.set_cons_succ]
    refine Rk.takeP (i := 5) (v := ?_) rfl (by kernel_rfl) (by kernel_rfl) (by kernel_rfl) (by kernel_rfl) (fun _ _ _ h => h) (Or.inl ⟨by kernel_rfl, ?_⟩) (by assumption) ?_
    rotate_left
    · ((intro w hSw; go_simp) <;> with_reducible rfl)
    try simp only [Act.put, List.setIfInBounds_toArray, List.set_cons_zero, List.set_cons_succ]
    refine Rk.takeP (i := 6) (v := ?_) rfl (by kernel_rfl) (by kernel_rfl) (by kernel_rfl) (by kernel_rfl) (fun _ _ _ h => h) (Or.inl ⟨by kernel_rfl, ?_⟩) (by assumption) ?_
    rotate_left
    · ((intro w hSw; go_simp) <;> with_reducible rfl)
    try simp only [Act.put, List.setIfInBounds_toArray, List.set_cons_zero, List.set_cons_succ]
    refine Rk.takeP (i := 7) (v := ?_) rfl (by kernel_rfl) (by kernel_rfl) (by kernel_rfl) (by kernel_rfl) (fun _ _ _ h => h) (Or.inl ⟨by kernel_rfl, ?_⟩) (by assumption) ?_
    rotate_left
    · ((intro w hSw; go_simp) <;> with_reducible rfl)
    try simp only [Act.put, List.setIfInBounds_toArray, List.set_cons_zero, List.set_cons_succ]
    refine Rk.take [9] (i := 8) (v := ?_) rfl (by kernel_rfl) (by kernel_rfl) (by kernel_rfl) (by kernel_rfl) (by kernel_rfl) (fun _ _ _ h => h) (Or.inl ⟨by kernel_rfl, ?_⟩) (by assumption) ?_
    rotate_left
    · ((intro w hSw; (try dsimp only at hSw); go_simp) <;> with_reducible rfl)
    try simp only [Act.put, List.setIfInBounds_toArray, List.set_cons_zero, List.set_cons_succ]
    refine Rk.tail [9] [_] (by kernel_rfl) (by kernel_rfl) rfl (by decide) ?_
    clear hHeld hz9
    by_cases hle : (X0.length : Int) + 1 ≤ most
    · have hd : decide ((X0.length : Int) + 1 ≤ most) = true := decide_eq_true hle
      have HLE := Lib.hid hle
      clear hle
      go_wp2
      go_ret
      exact ⟨HBl.out.trans (Below.refl _ _).drew, ⟨HFo.out.m, HFo.out.h⟩, X0, w1.heap.size, HSZ.out, HX1.out, .inl ⟨HLE.out, rfl, HCA.out.drew⟩⟩
    · have hd : decide ((X0.length : Int) + 1 ≤ most) = false := decide_eq_false hle
      have HLE := Lib.hid hle
      clear hle
      go_wp2_with fail
      refine CR.out.mono ?_
      rintro e w5 ⟨hb5, hfo5, hor⟩
      rcases hor with ⟨hno, _, _⟩ | ⟨i5, x5, hi5, hk5, rfl, hC5⟩
      · exact absurd (look_at HCA.out.nk HXL.out) (by rw [hno]; simp)
      · have hii := keys_inj HCA.out.nk hi5 HXL.out hk5
        rw [List.length_cons] at hii
        have HFO5 := Lib.hid (Fo.trans (w1 := w4.drew) ⟨HFo.out.m, HFo.out.h⟩ hfo5 (fun x hx => by
          rw [List.map_cons, List.mem_cons] at hx
          rcases hx with rfl | h
          · exact .inr HSZ.out
          · refine .inl ?_
            obtain ⟨y, hy, rfl⟩ := List.mem_map.1 h
            rcases HX1.out with ⟨_, h9⟩ | ⟨i9, x9, _, _, h9⟩
            · rw [h9] at hy; exact List.mem_map_of_mem hy
            · rw [h9] at hy; exact List.mem_map_of_mem (mem_erase hy)) (by show w.heap.size ≤ w4.heap.size; exact HB4.out))
        clear hfo5
        have hii2 : i5 = X0.length := by omega
        rw [hii2] at hC5
        have HC5 := Lib.hid hC5
        clear hC5 hii hii2 hi5 hk5
        go_wp2
        go_ret
        exact ⟨(HBl.out.trans (Below.refl _ _).drew).trans (hb5), HFO5.out, X0, w1.heap.size, HSZ.out, HX1.out, .inr ⟨by have := HLE.out; omega, rfl, HC5.out⟩⟩
end Go.Proofs.Ytlmbjipcdhenlaa.Cs
