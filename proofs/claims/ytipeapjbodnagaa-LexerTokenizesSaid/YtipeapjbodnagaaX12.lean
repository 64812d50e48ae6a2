/- The lexer: symbol of the reference. -/
import Derived.Test.YtipeapjbodnagaaX11
namespace Go.Proofs.Ytipeapjbodnagaa.Lx
open Go.ChangeShapes Go.WideShapes Go.ChangeAt Go.RowKit
open Go.Proofs.Ytipeapjbodnagaa.Nm
set_option linter.unusedVariables false

def syb : List ByteArray := [⟨#[60, 61]⟩, ⟨#[61, 61]⟩, ⟨#[40]⟩, ⟨#[41]⟩, ⟨#[91]⟩, ⟨#[93]⟩, ⟨#[123]⟩, ⟨#[125]⟩, ⟨#[44]⟩, ⟨#[59]⟩, ⟨#[58]⟩, ⟨#[43]⟩, ⟨#[45]⟩, ⟨#[42]⟩, ⟨#[47]⟩, ⟨#[60]⟩, ⟨#[61]⟩, ⟨#[38]⟩, ⟨#[124]⟩, ⟨#[33]⟩, ⟨#[46]⟩, ⟨#[64]⟩]
theorem syb_cells (w : World) : SlT (w.alloc (Obj.cells #[Value.string ⟨#[60, 61]⟩, Value.string ⟨#[61, 61]⟩, Value.string ⟨#[40]⟩, Value.string ⟨#[41]⟩, Value.string ⟨#[91]⟩, Value.string ⟨#[93]⟩, Value.string ⟨#[123]⟩, Value.string ⟨#[125]⟩, Value.string ⟨#[44]⟩, Value.string ⟨#[59]⟩, Value.string ⟨#[58]⟩, Value.string ⟨#[43]⟩, Value.string ⟨#[45]⟩, Value.string ⟨#[42]⟩, Value.string ⟨#[47]⟩, Value.string ⟨#[60]⟩, Value.string ⟨#[61]⟩, Value.string ⟨#[38]⟩, Value.string ⟨#[124]⟩, Value.string ⟨#[33]⟩, Value.string ⟨#[46]⟩, Value.string ⟨#[64]⟩] 9)) (some ⟨w.heap.size, 0, none⟩) syb := fun i hi => by
  refine ⟨w.heap.size, 0, rfl, ?_⟩
  have : i = 0 ∨ i = 1 ∨ i = 2 ∨ i = 3 ∨ i = 4 ∨ i = 5 ∨ i = 6 ∨ i = 7 ∨ i = 8 ∨ i = 9 ∨ i = 10 ∨ i = 11 ∨ i = 12 ∨ i = 13 ∨ i = 14 ∨ i = 15 ∨ i = 16 ∨ i = 17 ∨ i = 18 ∨ i = 19 ∨ i = 20 ∨ i = 21 := by simp [syb] at hi; omega
  rcases this with rfl | rfl | rfl | rfl | rfl | rfl | rfl | rfl | rfl | rfl | rfl | rfl | rfl | rfl | rfl | rfl | rfl | rfl | rfl | rfl | rfl | rfl
  · show World.cell? _ _ = some (.string ⟨#[60, 61]⟩); go_cell
  · show World.cell? _ _ = some (.string ⟨#[61, 61]⟩); go_cell
  · show World.cell? _ _ = some (.string ⟨#[40]⟩); go_cell
  · show World.cell? _ _ = some (.string ⟨#[41]⟩); go_cell
  · show World.cell? _ _ = some (.string ⟨#[91]⟩); go_cell
  · show World.cell? _ _ = some (.string ⟨#[93]⟩); go_cell
  · show World.cell? _ _ = some (.string ⟨#[123]⟩); go_cell
  · show World.cell? _ _ = some (.string ⟨#[125]⟩); go_cell
  · show World.cell? _ _ = some (.string ⟨#[44]⟩); go_cell
  · show World.cell? _ _ = some (.string ⟨#[59]⟩); go_cell
  · show World.cell? _ _ = some (.string ⟨#[58]⟩); go_cell
  · show World.cell? _ _ = some (.string ⟨#[43]⟩); go_cell
  · show World.cell? _ _ = some (.string ⟨#[45]⟩); go_cell
  · show World.cell? _ _ = some (.string ⟨#[42]⟩); go_cell
  · show World.cell? _ _ = some (.string ⟨#[47]⟩); go_cell
  · show World.cell? _ _ = some (.string ⟨#[60]⟩); go_cell
  · show World.cell? _ _ = some (.string ⟨#[61]⟩); go_cell
  · show World.cell? _ _ = some (.string ⟨#[38]⟩); go_cell
  · show World.cell? _ _ = some (.string ⟨#[124]⟩); go_cell
  · show World.cell? _ _ = some (.string ⟨#[33]⟩); go_cell
  · show World.cell? _ _ = some (.string ⟨#[46]⟩); go_cell
  · show World.cell? _ _ = some (.string ⟨#[64]⟩); go_cell
theorem symbols (w : World) : Calls Try.prog 97 #[] w fun e w' => e = .returned (.slice (some ⟨w.heap.size, 0, none⟩) 22 22) ∧ w' = w.alloc (Obj.cells #[Value.string ⟨#[60, 61]⟩, Value.string ⟨#[61, 61]⟩, Value.string ⟨#[40]⟩, Value.string ⟨#[41]⟩, Value.string ⟨#[91]⟩, Value.string ⟨#[93]⟩, Value.string ⟨#[123]⟩, Value.string ⟨#[125]⟩, Value.string ⟨#[44]⟩, Value.string ⟨#[59]⟩, Value.string ⟨#[58]⟩, Value.string ⟨#[43]⟩, Value.string ⟨#[45]⟩, Value.string ⟨#[42]⟩, Value.string ⟨#[47]⟩, Value.string ⟨#[60]⟩, Value.string ⟨#[61]⟩, Value.string ⟨#[38]⟩, Value.string ⟨#[124]⟩, Value.string ⟨#[33]⟩, Value.string ⟨#[46]⟩, Value.string ⟨#[64]⟩] 9) := by
  go_enter Try.func97, Try.ntmps97
  go_wp2
  go_ret
  exact ⟨rfl, rfl⟩
theorem syb_small : ∀ k, k < 22 → (syb.getD k ByteArray.empty).size ≤ 2 := by decide +kernel
theorem kpbx {B : Nat} {y y' : World} {b o : Nat} {v : Value} (hy : Below B y y') (hb : b < B) (h : y.cell? ⟨b, o, none⟩ = some v) : y'.cell? ⟨b, o, none⟩ = some v := (hy.cell (p := ⟨b, o, none⟩) hb).trans h
/-- Whether a symbol stands at the start. -/
def pf (l : List UInt8) (y : ByteArray) : Bool := decide (y.size ≤ l.length) && (l.take y.size == y.data.toList)
/-- The length of the first symbol that stands at the start. -/
def fs (l : List UInt8) : List ByteArray → Nat
  | [] => 0
  | y :: r => if pf l y = true then y.size else fs l r
def ss (l : List UInt8) : Nat := fs l syb
set_option maxRecDepth 100000 in
set_option maxHeartbeats 8000000 in
theorem rsymbol (s : ByteArray) (w : World) (hs : s.size ≤ maxLen) : Calls Try.prog 70 #[.string s] w fun e w' => e = .returned (.int .i64 ((ss s.data.toList : Nat) : Int)) ∧ Below w.heap.size w w' := by
  unfold maxLen at hs
  obtain ⟨V, hV0⟩ : ∃ V, ss s.data.toList = V := ⟨_, rfl⟩
  rw [hV0]
  have HV0 := Lib.hid (show fs s.data.toList (syb.drop 0) = V from hV0)
  have SC := Lib.hid (syb_cells w)
  have BK : Below w.heap.size w (w.alloc (Obj.cells #[Value.string ⟨#[60, 61]⟩, Value.string ⟨#[61, 61]⟩, Value.string ⟨#[40]⟩, Value.string ⟨#[41]⟩, Value.string ⟨#[91]⟩, Value.string ⟨#[93]⟩, Value.string ⟨#[123]⟩, Value.string ⟨#[125]⟩, Value.string ⟨#[44]⟩, Value.string ⟨#[59]⟩, Value.string ⟨#[58]⟩, Value.string ⟨#[43]⟩, Value.string ⟨#[45]⟩, Value.string ⟨#[42]⟩, Value.string ⟨#[47]⟩, Value.string ⟨#[60]⟩, Value.string ⟨#[61]⟩, Value.string ⟨#[38]⟩, Value.string ⟨#[124]⟩, Value.string ⟨#[33]⟩, Value.string ⟨#[46]⟩, Value.string ⟨#[64]⟩] 9)) := (Below.refl _ _).alloc (Nat.le_refl _) _
  clear hV0
  go_enter Try.func70, Try.ntmps70
  go_wp2_with (go_at_call 97; refine (symbols _).mono ?_; rintro e w' ⟨rfl, rfl⟩)
  have hz : w.heap.size < (w.alloc (Obj.cells #[Value.string ⟨#[60, 61]⟩, Value.string ⟨#[61, 61]⟩, Value.string ⟨#[40]⟩, Value.string ⟨#[41]⟩, Value.string ⟨#[91]⟩, Value.string ⟨#[93]⟩, Value.string ⟨#[123]⟩, Value.string ⟨#[125]⟩, Value.string ⟨#[44]⟩, Value.string ⟨#[59]⟩, Value.string ⟨#[58]⟩, Value.string ⟨#[43]⟩, Value.string ⟨#[45]⟩, Value.string ⟨#[42]⟩, Value.string ⟨#[47]⟩, Value.string ⟨#[60]⟩, Value.string ⟨#[61]⟩, Value.string ⟨#[38]⟩, Value.string ⟨#[124]⟩, Value.string ⟨#[33]⟩, Value.string ⟨#[46]⟩, Value.string ⟨#[64]⟩] 9)).heap.size := by simp
  generalize w.alloc (Obj.cells #[Value.string ⟨#[60, 61]⟩, Value.string ⟨#[61, 61]⟩, Value.string ⟨#[40]⟩, Value.string ⟨#[41]⟩, Value.string ⟨#[91]⟩, Value.string ⟨#[93]⟩, Value.string ⟨#[123]⟩, Value.string ⟨#[125]⟩, Value.string ⟨#[44]⟩, Value.string ⟨#[59]⟩, Value.string ⟨#[58]⟩, Value.string ⟨#[43]⟩, Value.string ⟨#[45]⟩, Value.string ⟨#[42]⟩, Value.string ⟨#[47]⟩, Value.string ⟨#[60]⟩, Value.string ⟨#[61]⟩, Value.string ⟨#[38]⟩, Value.string ⟨#[124]⟩, Value.string ⟨#[33]⟩, Value.string ⟨#[46]⟩, Value.string ⟨#[64]⟩] 9) = wa at *
  go_loopw [4] (fun a wr => ∃ k : Nat, a = .int .i64 (k : Int) ∧ k ≤ 22 ∧ Below wa.heap.size wa wr ∧ Hid (fs s.data.toList (syb.drop k) = V)) (fun a _ => 22 - (intOf a).toNat)
  case atStart => exact ⟨0, rfl, by omega, Below.refl _ _, HV0⟩
  case round =>
    obtain ⟨k, rfl, hk, hB, hV⟩ := hrel
    have hB2 : Below w.heap.size w wr := BK.trans (hB.mono BK.size)
    by_cases hlt : k < 22
    · obtain ⟨b, o, e, c0⟩ := SC.out k (by show k < 22; exact hlt)
      cases e
      have hb : w.heap.size < wa.heap.size := hz
      have c0 := kpbx hB hb c0
      rw [Nat.zero_add] at c0
      have hd : syb.drop k = syb.getD k ByteArray.empty :: syb.drop (k + 1) := by rw [List.drop_eq_getElem_cons (by show k < 22; exact hlt), List.getD, List.getElem?_eq_getElem (by show k < 22; exact hlt)]; rfl
      have hV2 := hV.out
      rw [hd] at hV2
      have hsz2 := syb_small k hlt
      obtain ⟨y, hy⟩ : ∃ y, syb.getD k ByteArray.empty = y := ⟨_, rfl⟩
      rw [hy] at c0 hV2 hsz2
      clear hd hy hV
      have k0 : (0 : Int) ≤ k := by omega
      have k1 : (k : Int) < 22 := by omega
      have y0 : (0 : Int) ≤ y.size := by omega
      by_cases hle : y.size ≤ s.size
      · have d1 : decide ((y.size : Int) ≤ s.size) = true := decide_eq_true (by omega)
        have d2 : decide (y.size ≤ s.size) = true := decide_eq_true hle
        have d3 : (y.size : Int) ≤ s.size := by omega
        obtain ⟨q, hq⟩ : ∃ q, ((s.extract 0 y.size).toList == y.toList) = q := ⟨_, rfl⟩
        have hpf : pf s.data.toList y = q := by
          unfold pf
          rw [len_data, d2, Bool.true_and, ← hq, ByteArray.toList_eq, ByteArray.toList_eq, ext_list]
          simp
        cases q
        · have HV2 : Hid (fs s.data.toList (syb.drop (k + 1)) = V) := Lib.hid (by rw [← hV2]; show _ = if pf s.data.toList y = true then _ else _; rw [if_neg (by rw [hpf]; decide)])
          clear hpf hV2
          go_wp2
          go_quiet (fail)
          go_wp2
          go_roundw
          case rel => exact ⟨k + 1, by go_num, by omega, below_drewN hB _, HV2⟩
          case measure => simp [intOf]; omega
        · have E : Hid (V = y.size) := Lib.hid (by rw [← hV2]; show (if pf s.data.toList y = true then _ else _) = _; rw [if_pos hpf])
          clear hpf hV2
          go_wp2
          go_quiet (fail)
          go_wp2
          go_ret
          exact ⟨ret_int (by rw [E.out]), below_drewN hB2 _⟩
      · have d1 : decide ((y.size : Int) ≤ s.size) = false := decide_eq_false (by omega)
        have d2 : decide (y.size ≤ s.size) = false := decide_eq_false hle
        have hpf : pf s.data.toList y = false := by unfold pf; rw [len_data, d2]; rfl
        have HV2 : Hid (fs s.data.toList (syb.drop (k + 1)) = V) := Lib.hid (by rw [← hV2]; show _ = if pf s.data.toList y = true then _ else _; rw [if_neg (by rw [hpf]; decide)])
        clear hpf hV2
        go_wp2
        go_quiet (fail)
        go_wp2
        go_roundw
        case rel => exact ⟨k + 1, by go_num, by omega, below_drewN hB _, HV2⟩
        case measure => simp [intOf]; omega
    · obtain rfl : k = 22 := by omega
      have E : Hid (V = 0) := Lib.hid hV.out.symm
      clear hV
      go_wp2
      go_ret
      exact ⟨ret_int (by rw [E.out]; rfl), hB2⟩
end Go.Proofs.Ytipeapjbodnagaa.Lx
