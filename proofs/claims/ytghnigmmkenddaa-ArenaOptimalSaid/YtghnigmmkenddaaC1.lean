/- ordered: places in the order of their keys. -/
import Derived.Test.YtghnigmmkenddaaC0
import Derived.Test.YtghnigmmkenddaaS10
import Derived.Deep.Onto
namespace Go.Proofs.Ytghnigmmkenddaa.Ar
open Go.ChangeShapes Go.WideShapes Go.ChangeAt Go.RowKit
open Go.Proofs.Ytghnigmmkenddaa.Lv Go.Proofs.Ytghnigmmkenddaa.Nm
set_option linter.unusedVariables false
set_option linter.unusedSimpArgs false

theorem KG.cell {g : Nat} {w w' : World} (h : KG g w w') {b o : Nat} {v : Value} (hb : b ≠ g) (hc : w.cell? ⟨b, o, none⟩ = some v) : w'.cell? ⟨b, o, none⟩ = some v :=
  (World.cell?_of_block (w := w) (h.2 b hb (by have := World.block_lt_of_cell? _ _ hc; simpa using this))).trans hc
/-- The order by a key, equal keys by their places. -/
def cfk (kx : Int → Int) (x y : Int) : Int := if kx x < kx y then -1 else if kx y < kx x then 1 else if x < y then -1 else if y < x then 1 else 0
theorem cfk_neg (kx : Int → Int) (x y : Int) : cfk kx x y < 0 ↔ kx x < kx y ∨ (kx x = kx y ∧ x < y) := by
  unfold cfk
  split
  · simp; omega
  · split
    · simp; omega
    · split
      · simp; omega
      · split <;> simp <;> omega
theorem cfk_ord (kx : Int → Int) : OrdC (cfk kx) := by
  refine ⟨fun x y h => ?_, fun x y z h1 h2 => ?_⟩
  · rw [cfk_neg] at h ⊢; omega
  · rw [cfk_neg] at h1 h2 ⊢; omega
theorem cfk_ic (kx : Int → Int) {x y : Int} (h : y < x) : decide (ic (kx x) (kx y) < 0) = decide (cfk kx x y < 0) := by
  have h1 : ic (kx x) (kx y) < 0 ↔ cfk kx x y < 0 := by
    rw [cfk_neg]
    unfold ic
    split
    · simp; omega
    · split <;> simp <;> omega
  simp only [h1]
def idn (n : Nat) : List Int := (List.range n).map fun (i : Nat) => (i : Int)
def idk (k n : Nat) : List Int := (List.range n).map fun i => if i < k then (i : Int) else 0
theorem idn_len (n : Nat) : (idn n).length = n := by simp [idn]
theorem idk_len (k n : Nat) : (idk k n).length = n := by simp [idk]
theorem idn_get {n i : Nat} (h : i < n) : (idn n).getD i e50 = i := by simp [idn, List.getD, h]
theorem idn_mem {n : Nat} {x : Int} (h : x ∈ idn n) : ∃ i : Nat, i < n ∧ x = i := by
  simp [idn] at h
  obtain ⟨i, h1, h2⟩ := h
  exact ⟨i, h1, h2.symm⟩
theorem idk_zero (n : Nat) : idk 0 n = List.replicate n 0 := by
  refine List.ext_getElem (by simp [idk]) fun i h1 h2 => by simp [idk]
theorem idk_all (n : Nat) : idk n n = idn n := by
  refine List.ext_getElem (by simp [idk, idn]) fun i h1 h2 => ?_
  simp [idk] at h1
  simp [idk, idn, h1]
theorem idk_set {k n : Nat} (h : k < n) : (idk k n).set k (k : Int) = idk (k + 1) n := by
  refine List.ext_getElem (by simp [idk]) fun i h1 h2 => ?_
  rw [List.getElem_set]
  by_cases e : k = i
  · subst e; simp [idk]
  · rw [if_neg e]
    simp only [idk, List.getElem_map, List.getElem_range]
    by_cases e2 : i < k
    · rw [if_pos e2, if_pos (by omega)]
    · rw [if_neg e2, if_neg (by omega)]
theorem idn_sp (n c : Nat) : Sp 0 c n (idn n) := fun p q _ h1 h2 h3 => by rw [idn_get (by omega), idn_get h3]; omega
/-- The places in the order of their keys, as an insertion sort lays them. -/
def ordL (kx : Int → Int) (n : Nat) : List Int := insI (cfk kx) 0 (n - 1) 1 (idn n)
theorem srt_pair {cf : Int → Int → Int} {L : List Int} (h : SrtC cf 0 L.length L) : L.Pairwise fun x y => ¬ cf y x < 0 := by
  rw [List.pairwise_iff_getElem]
  intro i j hi hj hij
  have e : ∀ k (hk : k < L.length), L.getD k e50 = L[k] := fun k hk => by unfold List.getD; rw [List.getElem?_eq_getElem hk]; rfl
  have h1 := h i j (Nat.zero_le _) hij hj
  rw [e i hi, e j hj] at h1
  exact h1
theorem ordL_facts (kx : Int → Int) (n : Nat) : (ordL kx n).Perm (idn n) ∧ SrtC (cfk kx) 0 n (ordL kx n) := by
  rcases Nat.eq_zero_or_pos n with rfl | h
  · exact ⟨List.Perm.refl _, fun i j _ _ h => absurd h (Nat.not_lt_zero _)⟩
  · have h1 := ins_sorts (cfk_ord kx) (L := idn n) h (by rw [idn_len]; exact Nat.le_refl _)
    exact ⟨h1.1.perm, h1.2⟩
theorem ordL_uniq {kx : Int → Int} {n : Nat} {L : List Int} (h1 : L.Perm (idn n)) (h2 : SrtC (cfk kx) 0 n L) : L = ordL kx n := by
  have hl : L.length = n := by rw [h1.length_eq, idn_len]
  have h3 := ordL_facts kx n
  have hl2 : (ordL kx n).length = n := by rw [h3.1.length_eq, idn_len]
  refine List.Perm.eq_of_pairwise (le := fun x y => ¬ cfk kx y x < 0) (fun a b _ _ p q => ?_) (srt_pair (by rw [hl]; exact h2)) (srt_pair (by rw [hl2]; exact h3.2)) (h1.trans h3.1.symm)
  rw [cfk_neg] at p q
  omega
theorem ordL_mem {kx : Int → Int} {n : Nat} {x : Int} (h : x ∈ ordL kx n) : ∃ i : Nat, i < n ∧ x = i := idn_mem ((ordL_facts kx n).1.mem_iff.1 h)
theorem ordL_len (kx : Int → Int) (n : Nat) : (ordL kx n).length = n := by rw [(ordL_facts kx n).1.length_eq, idn_len]
theorem info3 : (Try.prog.info? 3).map (fun i => (i.zero, i.size, i.bytes)) = some (some (.int .i64 0), 1, 8) := by kernel_rfl
/-- Slots in memory. -/
abbrev st0 : St := (ByteArray.empty, 0, 0)
def SlS (w : World) (p : Option Addr) (xs : List St) : Prop := ∀ i, i < xs.length → ∃ b o, p = some ⟨b, o, none⟩ ∧ w.cell? ⟨b, o + i * 3, none⟩ = some (.string (xs.getD i st0).1) ∧ w.cell? ⟨b, o + i * 3 + 1, none⟩ = some (.int .i64 (xs.getD i st0).2.1) ∧ w.cell? ⟨b, o + i * 3 + 2, none⟩ = some (.int .i64 (xs.getD i st0).2.2)
/-- The answer of ordered: a row of the call's own. -/
def OrW (kx : Int → Int) (n : Nat) (w : World) (e : Ending) (w' : World) : Prop := ∃ g, e = .returned (.slice (some ⟨g, 0, none⟩) n n) ∧ Below w.heap.size w w' ∧ w'.ownsRow w.heap.size 3 1 (.slice (some ⟨g, 0, none⟩) n n) n (rowE (ordL kx n))

set_option maxRecDepth 100000 in
set_option maxHeartbeats 8000000 in
theorem ord21 (kf : Nat) (ky : Lf → Int) (OK : Lf → Prop) (HKF : Hid (∀ args w, (Go.callFunc kf args).run Try.prog w = .ok (.enter kf args) w)) (KC : Hid (∀ a, OK a → ∀ w, Calls Try.prog kf #[Lv4 a] w fun e w' => e = .returned (.int .i64 (ky a)) ∧ Below w.heap.size w w'))
    (p : Option Addr) (xs : List Lf) (c n : Nat) (w : World) (HN : Hid (xs.length = n)) (hn : n ≤ 60) (RA : Hid (SlL w p xs)) (HOK : Hid (∀ i, i < n → OK (xs.getD i lf0))) :
    Calls Try.prog 21 #[.slice p n c, .func (.func kf) #[] #[]] w (OrW (fun i => ky (xs.getD i.toNat lf0)) n w) := by
  obtain ⟨i0, hi, hz0, hz1, hz2⟩ := info_parts info3
  obtain ⟨kx, hkx⟩ : ∃ kx : Int → Int, (fun i => ky (xs.getD i.toNat lf0)) = kx := ⟨_, rfl⟩
  rw [hkx]
  have HKX := Lib.hid hkx
  clear hkx
  go_enter Try.func21, Try.ntmps21
  go_wp2_with (at_make; refine wpList_make_full _ rfl _ _ 43 rfl (w.heap.size + 1 + 1) 3 i0 (.int .i64 0) 1 Try.underlying43 hi hz0 hz1 .i64 .i64 _ _ n rfl rfl rfl rfl (by rw [hz2]; omega) (by unfold maxLen; omega) (by simp) ?_; intro w1 hown hg)
  have hbx : Below w.heap.size w w1 := Below.grown (((Below.refl _ _).alloc (Nat.le_refl _) _).alloc (by simp) _) hg (by simp; omega) (fun j hj => by cases hj)
  obtain ⟨g, hgv⟩ : ∃ g, g = w.heap.size + 1 + 1 := ⟨_, rfl⟩
  have e2 : ((w.alloc (Obj.cells #[Value.slice p n c] 22)).alloc (Obj.cells #[Value.func (Fn.func kf) #[] #[]] 45)).heap.size = w.heap.size + 1 + 1 := by simp
  have hL0 : w1.cell? ⟨w.heap.size, 0, none⟩ = some (.slice p n c) := (World.cell?_of_block (hg.block w.heap.size (by simp; omega) (by simp))).trans (by go_cell)
  have hK0 : w1.cell? ⟨w.heap.size + 1, 0, none⟩ = some (.func (.func kf) #[] #[]) := (World.cell?_of_block (hg.block (w.heap.size + 1) (by simp) (by simp))).trans (by go_cell)
  have hown2 : Hid (w1.ownsRow (w.heap.size + 1 + 1) 3 1 (.slice (some ⟨g, 0, none⟩) n n) n (rowE (idk 0 n))) := Lib.hid (by
    have h := hown
    try rw [e2] at h
    rw [← hgv] at h
    rw [show (Value.int IntKind.i64 0).cells = #[.int .i64 0] from rfl, toList_madeCells_one, Nat.mul_one] at h
    unfold rowE
    rw [idk_zero, List.map_replicate, hgv]
    rw [hgv] at h
    exact h)
  try simp only [e2] 
  try rw [← hgv]
  clear hown hg hi hz0 hz1 hz2 i0 e2
  have HGV := Lib.hid hgv
  have hge : w.heap.size ≤ g := by omega
  clear hgv
  have HL0 := Lib.hid hL0
  have HK0 := Lib.hid hK0
  go_loopw [12] (fun iv wr => ∃ (k : Nat), iv = .int .i64 (k : Int) ∧ k ≤ n ∧ Hid (Below w.heap.size w wr) ∧ Hid (KG g w1 wr) ∧ Hid (wr.ownsRow (w.heap.size + 1 + 1) 3 1 (.slice (some ⟨g, 0, none⟩) n n) n (rowE (idk k n)))) (fun iv _ => n - (intOf iv).toNat)
  case atStart => exact ⟨0, rfl, Nat.zero_le _, Lib.hid hbx, Lib.hid (KG.refl _ _), hown2⟩
  case round =>
    clear hbx hown2 hL0 hK0
    obtain ⟨k, rfl, hk, hB, hKG, hO⟩ := hrel
    by_cases hlt : k < n
    · have k0 : (0 : Int) ≤ k := by omega
      have k1 : (k : Int) < n := by omega
      have hf := hO.out.frozenAt k
      have ST := hO.out.stored k (.int .i64 (k : Int))
      have hc0 := (hO.out.cellAt k (by omega)).trans (rowE_get (idk k n) k (by rw [idk_len]; exact hlt))
      have O2 : Hid ((wr.setCell ⟨g, k, none⟩ (.int .i64 (k : Int))).ownsRow (w.heap.size + 1 + 1) 3 1 (.slice (some ⟨g, 0, none⟩) n n) n (rowE (idk (k + 1) n))) := Lib.hid (by
        have h := ST.1
        rw [rowE_set, idk_set hlt] at h
        exact h)
      have K2 := Lib.hid (hKG.out.trans (KG.own hO.out ST.2))
      have B2 := Lib.hid (Below.setCell (p := ⟨g, k, none⟩) hB.out (by dsimp only; omega) (.int .i64 (k : Int)))
      clear ST
      go_wp2
      go_roundw
      case rel => exact ⟨k + 1, by go_num, by omega, B2, K2, O2⟩
      case measure => simp [intOf]; omega
    · obtain rfl : k = n := by omega
      have kl : ¬ (k : Int) < k := by omega
      have HO : Hid (wr.ownsRow (w.heap.size + 1 + 1) 3 1 (.slice (some ⟨g, 0, none⟩) k k) k (rowE (idn k))) := Lib.hid (by have h := hO.out; rw [idk_all] at h; exact h)
      have hsz : w.heap.size + 1 + 1 ≤ wr.heap.size := by
        have h1 := World.block_lt_of_cell? _ _ HK0.out
        have h2 := hKG.out.1
        simp at h1
        omega
      have IC := Lib.hid (sortN 36 (.pointer (some ⟨w.heap.size + 1, 0, none⟩)) (.pointer (some ⟨w.heap.size, 0, none⟩)) g k (w.heap.size + 1 + 1) k (idn k) (idn k) (cfk kx) (cfk_ord kx) wr wr (by omega) (Lib.hid ⟨idn_len k, fun x h => h⟩) HO (Lib.hid ent36) (Lib.hid (by
        intro x y hx hy hxy w' hk'
        obtain ⟨i, hi, rfl⟩ := idn_mem hx
        obtain ⟨j, hj, rfl⟩ := idn_mem hy
        have HK2 : KG g w1 w' := hKG.out.trans hk'
        have hgv := HGV.out
        have HBN : ∀ b, b < w.heap.size → b ≠ g := fun b h => by omega
        obtain ⟨b, o, rfl, c0, c1, c2, c3⟩ := RA.out i (by rw [HN.out]; exact hi)
        obtain ⟨b', o', e, d0, d1, d2, d3⟩ := RA.out j (by rw [HN.out]; exact hj)
        cases e
        have hbb : b < w.heap.size := by have := World.block_lt_of_cell? w _ c0; simpa using this
        have hB1 := hB.out
        have KW : ∀ {o : Nat} {v : Value}, w.cell? ⟨b, o, none⟩ = some v → wr.cell? ⟨b, o, none⟩ = some v := fun h => (hB1.cell (p := ⟨b, _, none⟩) hbb).trans h
        have C := clo36 kf ky OK HKF KC (w.heap.size + 1) w.heap.size b o k c i j (xs.getD i lf0) (xs.getD j lf0) w' (Lib.hid (HOK.out i hi)) (Lib.hid (HOK.out j hj)) hi hj ⟨KG.cell HK2 (by omega) HK0.out, KG.cell HK2 (by omega) HL0.out, KG.cell hk' (HBN b hbb) (KW c0), KG.cell hk' (HBN b hbb) (KW c1), KG.cell hk' (HBN b hbb) (KW c2), KG.cell hk' (HBN b hbb) (KW c3), KG.cell hk' (HBN b hbb) (KW d0), KG.cell hk' (HBN b hbb) (KW d1), KG.cell hk' (HBN b hbb) (KW d2), KG.cell hk' (HBN b hbb) (KW d3), (Below.refl _ _).drew⟩
        refine C.mono ?_
        rintro e w2 ⟨rfl, hb⟩
        refine ⟨⟨_, rfl, ?_⟩, hb⟩
        have h := cfk_ic kx hxy
        rw [← HKX.out] at h ⊢
        exact h)) (Lib.hid (KG.refl _ _)) hsz (Lib.hid (idn_sp k)))
      go_wp2_with (go_at_call 35; (with_reducible refine IC.out.mono ?_); rintro e w9 ⟨rfl, B9, K9, L9, r9, s9, O9⟩)
      go_ret
      have hL := ordL_uniq r9.perm s9
      refine ⟨g, rfl, hB.out.trans (B9.mono (by omega)), ?_⟩
      have h := O9.out
      rw [hL] at h
      exact World.ownsRow.mono h (by omega)

set_option maxRecDepth 100000 in
set_option maxHeartbeats 8000000 in
theorem ord33 (kf : Nat) (ky : St → Int) (OK : St → Prop) (HKF : Hid (∀ args w, (Go.callFunc kf args).run Try.prog w = .ok (.enter kf args) w)) (KC : Hid (∀ a, OK a → ∀ w, Calls Try.prog kf #[Sv3 a] w fun e w' => e = .returned (.int .i64 (ky a)) ∧ Below w.heap.size w w'))
    (p : Option Addr) (xs : List St) (c n : Nat) (w : World) (HN : Hid (xs.length = n)) (hn : n ≤ 60) (RA : Hid (SlS w p xs)) (HOK : Hid (∀ i, i < n → OK (xs.getD i st0))) :
    Calls Try.prog 33 #[.slice p n c, .func (.func kf) #[] #[]] w (OrW (fun i => ky (xs.getD i.toNat st0)) n w) := by
  obtain ⟨i0, hi, hz0, hz1, hz2⟩ := info_parts info3
  obtain ⟨kx, hkx⟩ : ∃ kx : Int → Int, (fun i => ky (xs.getD i.toNat st0)) = kx := ⟨_, rfl⟩
  rw [hkx]
  have HKX := Lib.hid hkx
  clear hkx
  go_enter Try.func33, Try.ntmps33
  go_wp2_with (at_make; refine wpList_make_full _ rfl _ _ 43 rfl (w.heap.size + 1 + 1) 3 i0 (.int .i64 0) 1 Try.underlying43 hi hz0 hz1 .i64 .i64 _ _ n rfl rfl rfl rfl (by rw [hz2]; omega) (by unfold maxLen; omega) (by simp) ?_; intro w1 hown hg)
  have hbx : Below w.heap.size w w1 := Below.grown (((Below.refl _ _).alloc (Nat.le_refl _) _).alloc (by simp) _) hg (by simp; omega) (fun j hj => by cases hj)
  obtain ⟨g, hgv⟩ : ∃ g, g = w.heap.size + 1 + 1 := ⟨_, rfl⟩
  have e2 : ((w.alloc (Obj.cells #[Value.slice p n c] 25)).alloc (Obj.cells #[Value.func (Fn.func kf) #[] #[]] 55)).heap.size = w.heap.size + 1 + 1 := by simp
  have hL0 : w1.cell? ⟨w.heap.size, 0, none⟩ = some (.slice p n c) := (World.cell?_of_block (hg.block w.heap.size (by simp; omega) (by simp))).trans (by go_cell)
  have hK0 : w1.cell? ⟨w.heap.size + 1, 0, none⟩ = some (.func (.func kf) #[] #[]) := (World.cell?_of_block (hg.block (w.heap.size + 1) (by simp) (by simp))).trans (by go_cell)
  have hown2 : Hid (w1.ownsRow (w.heap.size + 1 + 1) 3 1 (.slice (some ⟨g, 0, none⟩) n n) n (rowE (idk 0 n))) := Lib.hid (by
    have h := hown
    try rw [e2] at h
    rw [← hgv] at h
    rw [show (Value.int IntKind.i64 0).cells = #[.int .i64 0] from rfl, toList_madeCells_one, Nat.mul_one] at h
    unfold rowE
    rw [idk_zero, List.map_replicate, hgv]
    rw [hgv] at h
    exact h)
  try simp only [e2] 
  try rw [← hgv]
  clear hown hg hi hz0 hz1 hz2 i0 e2
  have HGV := Lib.hid hgv
  have hge : w.heap.size ≤ g := by omega
  clear hgv
  have HL0 := Lib.hid hL0
  have HK0 := Lib.hid hK0
  go_loopw [12] (fun iv wr => ∃ (k : Nat), iv = .int .i64 (k : Int) ∧ k ≤ n ∧ Hid (Below w.heap.size w wr) ∧ Hid (KG g w1 wr) ∧ Hid (wr.ownsRow (w.heap.size + 1 + 1) 3 1 (.slice (some ⟨g, 0, none⟩) n n) n (rowE (idk k n)))) (fun iv _ => n - (intOf iv).toNat)
  case atStart => exact ⟨0, rfl, Nat.zero_le _, Lib.hid hbx, Lib.hid (KG.refl _ _), hown2⟩
  case round =>
    clear hbx hown2 hL0 hK0
    obtain ⟨k, rfl, hk, hB, hKG, hO⟩ := hrel
    by_cases hlt : k < n
    · have k0 : (0 : Int) ≤ k := by omega
      have k1 : (k : Int) < n := by omega
      have hf := hO.out.frozenAt k
      have ST := hO.out.stored k (.int .i64 (k : Int))
      have hc0 := (hO.out.cellAt k (by omega)).trans (rowE_get (idk k n) k (by rw [idk_len]; exact hlt))
      have O2 : Hid ((wr.setCell ⟨g, k, none⟩ (.int .i64 (k : Int))).ownsRow (w.heap.size + 1 + 1) 3 1 (.slice (some ⟨g, 0, none⟩) n n) n (rowE (idk (k + 1) n))) := Lib.hid (by
        have h := ST.1
        rw [rowE_set, idk_set hlt] at h
        exact h)
      have K2 := Lib.hid (hKG.out.trans (KG.own hO.out ST.2))
      have B2 := Lib.hid (Below.setCell (p := ⟨g, k, none⟩) hB.out (by dsimp only; omega) (.int .i64 (k : Int)))
      clear ST
      go_wp2
      go_roundw
      case rel => exact ⟨k + 1, by go_num, by omega, B2, K2, O2⟩
      case measure => simp [intOf]; omega
    · obtain rfl : k = n := by omega
      have kl : ¬ (k : Int) < k := by omega
      have HO : Hid (wr.ownsRow (w.heap.size + 1 + 1) 3 1 (.slice (some ⟨g, 0, none⟩) k k) k (rowE (idn k))) := Lib.hid (by have h := hO.out; rw [idk_all] at h; exact h)
      have hsz : w.heap.size + 1 + 1 ≤ wr.heap.size := by
        have h1 := World.block_lt_of_cell? _ _ HK0.out
        have h2 := hKG.out.1
        simp at h1
        omega
      have IC := Lib.hid (sortN 42 (.pointer (some ⟨w.heap.size + 1, 0, none⟩)) (.pointer (some ⟨w.heap.size, 0, none⟩)) g k (w.heap.size + 1 + 1) k (idn k) (idn k) (cfk kx) (cfk_ord kx) wr wr (by omega) (Lib.hid ⟨idn_len k, fun x h => h⟩) HO (Lib.hid ent42) (Lib.hid (by
        intro x y hx hy hxy w' hk'
        obtain ⟨i, hi, rfl⟩ := idn_mem hx
        obtain ⟨j, hj, rfl⟩ := idn_mem hy
        have HK2 : KG g w1 w' := hKG.out.trans hk'
        have hgv := HGV.out
        have HBN : ∀ b, b < w.heap.size → b ≠ g := fun b h => by omega
        obtain ⟨b, o, rfl, c0, c1, c2⟩ := RA.out i (by rw [HN.out]; exact hi)
        obtain ⟨b', o', e, d0, d1, d2⟩ := RA.out j (by rw [HN.out]; exact hj)
        cases e
        have hbb : b < w.heap.size := by have := World.block_lt_of_cell? w _ c0; simpa using this
        have hB1 := hB.out
        have KW : ∀ {o : Nat} {v : Value}, w.cell? ⟨b, o, none⟩ = some v → wr.cell? ⟨b, o, none⟩ = some v := fun h => (hB1.cell (p := ⟨b, _, none⟩) hbb).trans h
        have C := clo42 kf ky OK HKF KC (w.heap.size + 1) w.heap.size b o k c i j (xs.getD i st0) (xs.getD j st0) w' (Lib.hid (HOK.out i hi)) (Lib.hid (HOK.out j hj)) hi hj ⟨KG.cell HK2 (by omega) HK0.out, KG.cell HK2 (by omega) HL0.out, KG.cell hk' (HBN b hbb) (KW c0), KG.cell hk' (HBN b hbb) (KW c1), KG.cell hk' (HBN b hbb) (KW c2), KG.cell hk' (HBN b hbb) (KW d0), KG.cell hk' (HBN b hbb) (KW d1), KG.cell hk' (HBN b hbb) (KW d2), (Below.refl _ _).drew⟩
        refine C.mono ?_
        rintro e w2 ⟨rfl, hb⟩
        refine ⟨⟨_, rfl, ?_⟩, hb⟩
        have h := cfk_ic kx hxy
        rw [← HKX.out] at h ⊢
        exact h)) (Lib.hid (KG.refl _ _)) hsz (Lib.hid (idn_sp k)))
      go_wp2_with (go_at_call 35; (with_reducible refine IC.out.mono ?_); rintro e w9 ⟨rfl, B9, K9, L9, r9, s9, O9⟩)
      go_ret
      have hL := ordL_uniq r9.perm s9
      refine ⟨g, rfl, hB.out.trans (B9.mono (by omega)), ?_⟩
      have h := O9.out
      rw [hL] at h
      exact World.ownsRow.mono h (by omega)
end Go.Proofs.Ytghnigmmkenddaa.Ar
