/- Linear forms: the names of the reference. -/
import Derived.Test.YthdeaneffnlffaaY25
namespace Go.Proofs.Ythdeaneffnlffaa.Ln
open Go.ChangeShapes Go.WideShapes Go.ChangeAt Go.RowKit
set_option linter.unusedVariables false
set_option linter.unusedSimpArgs false
open Go.Proofs.Ythdeaneffnlffaa.Nm
/-- A form in a list: its constant, its row, its monomials, the row's room. -/
abbrev Fm := Int × Option Addr × List Mo × Nat
abbrev fm0 : Fm := (0, none, [], 0)
def SlL (w : World) (p : Option Addr) (fs : List Fm) : Prop := ∀ i, i < fs.length → ∃ b o, p = some ⟨b, o, none⟩ ∧ w.cell? ⟨b, o + i * 2, none⟩ = some (.int .i64 (fs.getD i fm0).1) ∧
  w.cell? ⟨b, o + i * 2 + 1, none⟩ = some (.slice (fs.getD i fm0).2.1 (fs.getD i fm0).2.2.1.length (fs.getD i fm0).2.2.2) ∧ SlM w (fs.getD i fm0).2.1 (fs.getD i fm0).2.2.1
theorem SlL.keep {w w' : World} {p : Option Addr} {fs : List Fm} (hB : Below w.heap.size w w') (h : SlL w p fs) : SlL w' p fs := fun i hi => by
  obtain ⟨b, o, rfl, c0, c1, c2⟩ := h i hi
  have hb := lt_of_cell c0
  exact ⟨b, o, rfl, kp hB hb c0, kp hB hb c1, SlM.keep hB c2⟩
def nms (fs : List Fm) : List ByteArray := fs.flatMap fun f => f.2.2.1.map (·.1)
theorem ftake1 {L : List Fm} {i : Nat} (h : i < L.length) : L.take (i + 1) = L.take i ++ [L.getD i fm0] := by
  rw [List.take_succ_eq_append_getElem h]
  unfold List.getD
  rw [List.getElem?_eq_getElem h]
  rfl
theorem nms_step {fs : List Fm} {i : Nat} (h : i < fs.length) : nms (fs.take (i + 1)) = nms (fs.take i) ++ (fs.getD i fm0).2.2.1.map (·.1) := by
  rw [ftake1 h]
  unfold nms
  rw [List.flatMap_append]
  simp
def NW (fs : List Fm) (w : World) (e : Ending) (w' : World) : Prop :=
  ∃ v L, e = .returned v ∧ w'.ownsRow w.heap.size 9 1 v L.length (stC L) ∧ Srt L ∧ (∀ x, x ∈ L ↔ x ∈ nms fs) ∧ L.length ≤ fs.length * 1000 ∧ Below w.heap.size w w'
set_option maxRecDepth 100000 in
set_option maxHeartbeats 16000000 in
theorem names2 (p : Option Addr) (fs : List Fm) (c : Nat) (w : World) (hn : fs.length ≤ 50) (hx : Hid (∀ i, i < fs.length → (fs.getD i fm0).2.2.1.length ≤ 1000)) (RA : Hid (SlL w p fs)) :
    Calls Try.prog 27 #[.slice p fs.length c] w (NW fs w) := by
  have CI := Lib.hid fun (v : Value) (L : List ByteArray) (s : ByteArray) (u : World) h1 h2 h3 => insert1 w.heap.size v L s u h1 h2 h3
  go_enter Try.func27, Try.ntmps27
  go_wp2
  go_loopw [3, 4] (fun v i wr => ∃ (j : Nat) (L : List ByteArray), i = .int .i64 (j : Int) ∧ j ≤ fs.length ∧ L.length ≤ j * 1000 ∧ Below w.heap.size w wr ∧ Hid (wr.ownsRow w.heap.size 9 1 v L.length (stC L)) ∧ Hid (Srt L) ∧ Hid (∀ x, x ∈ L ↔ x ∈ nms (fs.take j))) (fun _ i _ => fs.length - (intOf i).toNat)
  case atStart => exact ⟨0, [], rfl, by omega, by simp, Below.refl _ _, Lib.hid (World.ownsRow_nil _ _ _ _), Lib.hid List.Pairwise.nil, Lib.hid (by simp [nms])⟩
  case round =>
    obtain ⟨j, L, rfl, hj, hlen, hB, hO, hS, hM⟩ := hrel
    have j0 : (0 : Int) ≤ j := by omega
    by_cases hlt : j < fs.length
    · obtain ⟨b, o, rfl, c0, c1, c2⟩ := SlL.keep hB RA.out j hlt
      have hst := Lib.hid (nms_step hlt)
      have hx1 := hx.out j hlt
      obtain ⟨⟨kk, pp, xs, cc⟩, hf⟩ : ∃ f, fs.getD j fm0 = f := ⟨_, rfl⟩
      rw [hf] at c0 c1 c2 hx1
      replace hst := Lib.hid (by have h := hst.out; rw [hf] at h; exact h)
      simp only at c0 c1 c2 hx1
      have HF := Lib.hid hf
      clear hf c0
      have j1 : (j : Int) < fs.length := by omega
      have RX := Lib.hid c2
      clear c2
      go_wp2_with fail
      clear c1 RX
      go_loopw [3, 5] (fun v i w2 => ∃ (k : Nat) (L : List ByteArray), i = .int .i64 (k : Int) ∧ k ≤ xs.length ∧ L.length ≤ j * 1000 + k ∧ Below w.heap.size w w2 ∧ Hid (w2.ownsRow w.heap.size 9 1 v L.length (stC L)) ∧ Hid (Srt L) ∧ Hid (∀ x, x ∈ L ↔ x ∈ nms (fs.take j) ∨ x ∈ (xs.take k).map (·.1))) (fun _ i _ => xs.length - (intOf i).toNat)
      case atStart => exact ⟨0, L, rfl, by omega, by omega, hB, hO, hS, Lib.hid (fun x => by rw [hM.out x]; simp)⟩
      case round =>
        clear hlen hO hS hM hB
        obtain ⟨k, L2, rfl, hk, hlen, hB, hO, hS, hM⟩ := hrel
        have k0 : (0 : Int) ≤ k := by omega
        obtain ⟨b', o', he, c0, c1, c2⟩ := SlL.keep hB RA.out j hlt
        cases he
        rw [HF.out] at c0 c1 c2
        simp only at c0 c1 c2
        clear c0
        by_cases hlk : k < xs.length
        · obtain ⟨b2, o2, rfl, d0, d1⟩ := c2 k hlk
          have htk := Lib.hid (take_step hlk)
          obtain ⟨⟨s, a⟩, hxx⟩ : ∃ x, xs.getD k mo0 = x := ⟨_, rfl⟩
          rw [hxx] at d0 d1
          replace htk := Lib.hid (by have h := htk.out; rw [hxx] at h; exact h)
          simp only at d0 d1
          clear hxx d1 c2
          have k1 : (k : Int) < xs.length := by omega
          have C2 := Lib.hid (CI.out _ L2 s wr (by omega) hB.size hO)
          go_wp2_with fail
          refine C2.out.mono ?_
          rintro e w3 ⟨v', L', rfl, hO', hB', hS', hM', hl'⟩
          have hM2 : Hid (∀ x, x ∈ L' ↔ x ∈ nms (fs.take j) ∨ x ∈ (xs.take (k + 1)).map (·.1)) := Lib.hid (by
            intro x
            rw [hM' x, hM.out x, htk.out, List.map_append, List.mem_append, List.map_cons, List.map_nil, List.mem_singleton, or_assoc])
          have hS2 := Lib.hid (hS' hS.out)
          have hO2 := Lib.hid hO'
          have hB2 : Below w.heap.size w w3 := hB.trans hB'
          clear hO' hB' hS' hM' hO hS hM
          go_wp2
          go_roundw
          case rel => exact ⟨k + 1, L', by go_num, by omega, by omega, hB2, hO2, hS2, hM2⟩
          case measure => simp [intOf]; omega
        · have k1 : ¬ (k : Int) < xs.length := by omega
          obtain rfl : k = xs.length := by omega
          have hM2 : Hid (∀ x, x ∈ L2 ↔ x ∈ nms (fs.take (j + 1))) := Lib.hid (by
            intro x
            rw [hM.out x, hst.out, List.mem_append, List.take_length])
          go_wp2
          go_roundw
          case rel => exact ⟨j + 1, L2, by go_num, by omega, by omega, hB, hO, hS, hM2⟩
          case measure => simp [intOf]; omega
    · have j1 : ¬ (j : Int) < fs.length := by omega
      obtain rfl : j = fs.length := by omega
      go_wp2
      go_ret
      exact ⟨_, L, rfl, hO.out, hS.out, fun x => by rw [hM.out x, List.take_length], hlen, hB⟩
end Go.Proofs.Ythdeaneffnlffaa.Ln
