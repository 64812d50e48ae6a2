/- Boxes: All of the reference. -/
import Derived.Test.YtkdfidjoighknaaB22
namespace Go.Proofs.Ytkdfidjoighknaa.Bx
open Go.ChangeShapes Go.WideShapes Go.ChangeAt Go.RowKit
set_option linter.unusedVariables false
set_option linter.unusedSimpArgs false
open Go.Proofs.Ytkdfidjoighknaa.Nm Go.Proofs.Ytkdfidjoighknaa.Ln
theorem info22 : (Try.prog.info? 22).map (fun i => (i.zero, i.size, i.bytes)) = some (some (.slice none 0 0), 1, 24) := by kernel_rfl
theorem KI.below {A W : World} (h : Below A.heap.size A W) : KI A W := fun g cs hg => (h.block g (Array.getElem?_eq_some_iff.1 hg).1).trans hg
theorem own_blk {A : World} {base e size : Nat} {v : Value} {n : Nat} {xs : List Value} (h : A.ownsRow base e size v n xs) {g : Nat} (hg : v.ownBlock = some g) : ∃ cs : Array Value, A.heap[g]? = some (.cells cs e (0, 0)) := by
  rcases h.2 with ⟨rfl, _⟩ | ⟨g', cap, cur, rfl, _, hh, _⟩
  · cases hg
  · cases hg
    exact ⟨cur, hh⟩
theorem KI.grown {A W : World} {base e size : Nat} {v : Value} {n : Nat} {xs : List Value} (h : A.ownsRow base e size v n xs) (he : e ≠ 3) (hg : A.grownBy W v.ownBlock) : KI A W := fun g cs hc => by
  refine (hg.block g (Array.getElem?_eq_some_iff.1 hc).1 (fun e2 => ?_)).trans hc
  obtain ⟨cs2, h2⟩ := own_blk h e2.symm
  rw [hc] at h2
  simp at h2
  exact he h2.2.symm
theorem own_beyond' {A W : World} (h : Below A.heap.size A W) {b e size n : Nat} {v : Value} {xs : List Value} (ho : A.ownsRow b e size v n xs) : W.ownsRow b e size v n xs := by
  obtain ⟨hl, h1 | ⟨g, cap, cur, e, hb, hg, r⟩⟩ := ho
  · exact ⟨hl, .inl h1⟩
  · exact ⟨hl, .inr ⟨g, cap, cur, e, hb, (h.block g (Array.getElem?_eq_some_iff.1 hg).1).trans hg, r⟩⟩
/-- The points that lie in a row of slices, each in a row of its own. -/
def Pts (b : Nat) (zs : List Int) (W : World) (vs : List Value) : Prop := ∀ (i : Nat) (v : Value), vs[i]? = some v → W.ownsRow b 3 1 v zs.length ((pt zs (i : Int)).map (Value.int .i64))
theorem Pts.KI {b : Nat} {zs : List Int} {A W : World} {vs : List Value} (h : Pts b zs A vs) (k : KI A W) : Pts b zs W vs := fun i v hv => own_KI k (h i v hv)
def RAW (zs : List Int) (w : World) (e : Ending) (w' : World) : Prop := ∃ v vs, e = .returned v ∧ vs.length = (cnt zs).toNat ∧ Below w.heap.size w w' ∧ w'.ownsRow w.heap.size 22 1 v vs.length vs ∧ Pts w.heap.size zs w' vs
set_option maxHeartbeats 8000000 in
theorem rall1 (p : Option Addr) (zs : List Int) (c : Nat) (w : World) (hn : zs.length ≤ maxLen) (RA : Hid (SlI w p zs)) :
    Calls Try.prog 26 #[.slice p zs.length c] w (RAW zs w) := by
  have CC := Lib.hid (rcount1 p zs c w hn RA)
  have CP := Lib.hid fun (u : World) (hu : Below w.heap.size w u) (k : Nat) (hk : (k : Int) < cnt zs) => (by
    have h := rpoint1 p zs c k u hn (Lib.hid (SlI.keep hu RA.out))
    rw [show pP zs k = pt zs k from if_pos (pB_of (by omega) hk), pB_of (by omega) hk] at h
    exact h : Calls Try.prog 20 #[.slice p zs.length c, .int .i64 k] u (PW (pt zs k) true u))
  have HT := Lib.hid fun (k : Nat) (hk : (k : Int) < cnt zs) => (cnt_pos (by omega) hk).2.2.2.2.2
  have HU := Lib.hid fun (k : Nat) (hk : (k : Int) < cnt zs) => (cnt_pos (by omega) hk).2.2.2.1
  have PL := Lib.hid fun k : Nat => pt_length zs (k : Int)
  generalize hC : cnt zs = C at CC CP HT HU
  have HC := Lib.hid hC
  clear hC hn
  obtain ⟨i0, hi, hz0, hz1, hz2⟩ := info_parts info22
  go_enter Try.func26, Try.ntmps26
  go_wp2_with fail
  refine CC.out.mono ?_
  rintro e w' ⟨rfl, md, rfl⟩
  have B1 := Lib.hid (World.below_drewN' (Below.refl w.heap.size w) md)
  generalize w.drewN md = u at *
  clear CC
  go_wp2_with fail
  go_loopw [3, 5] (fun v i wr => ∃ (k : Nat) (vs : List Value), i = .int .i64 (k : Int) ∧ k ≤ C.toNat ∧ vs.length = k ∧ Hid (Below w.heap.size w wr) ∧ Hid (wr.ownsRow w.heap.size 22 1 v k vs) ∧ Hid (Pts w.heap.size zs wr vs)) (fun _ i _ => C.toNat - (intOf i).toNat)
  case atStart => exact ⟨0, [], rfl, by omega, rfl, B1, Lib.hid (World.ownsRow_nil _ _ _ _), Lib.hid fun i v hv => by cases hv⟩
  case round =>
    obtain ⟨k, vs, rfl, hk, hvs, HB, HO, HP⟩ := hrel
    have k0 : (0 : Int) ≤ k := by omega
    by_cases hlt : (k : Int) < C
    · have k1 : decide ((k : Int) < C) = true := decide_eq_true hlt
      have h65 := HT.out k hlt
      have hcs := HU.out k hlt
      have hk6 : k < 65536 := by omega
      have KP := Lib.hid (CP.out wr HB.out k hlt)
      clear h65 hcs
      go_wp2_with fail
      refine KP.out.mono ?_
      rintro e w1 ⟨v1, rfl, hb, ho⟩
      have HB1 := Lib.hid (HB.out.trans (hb.mono HB.out.size))
      have HO1 : Hid (w1.ownsRow w.heap.size 22 1 _ k vs) := Lib.hid (own_beyond' hb HO.out)
      have HP1 := Lib.hid (HP.out.KI (KI.below hb))
      have HV1 : Hid (w1.ownsRow w.heap.size 3 1 v1 zs.length ((pt zs k).map (Value.int .i64))) := Lib.hid (by rw [← PL.out k]; exact ho.mono HB.out.size)
      clear hb ho HB HO HP KP
      obtain ⟨q1, d1, rfl⟩ := own_slice HV1.out
      have BA := Lib.hid (HB1.out.alloc HB1.out.size (Obj.cells #[Value.slice q1 zs.length d1] 22))
      have OA := Lib.hid (HO1.out.alloc (Obj.cells #[Value.slice q1 zs.length d1] 22))
      have PA := Lib.hid ((HP1.out.KI (KI.below ((Below.refl w1.heap.size w1).alloc (Nat.le_refl _) (Obj.cells #[Value.slice q1 zs.length d1] 22)))))
      have VA := Lib.hid (HV1.out.alloc (Obj.cells #[Value.slice q1 zs.length d1] 22))
      clear HB1 HO1 HP1 HV1
      go_wp2_with (at_builtin; refine wpList_append_own _ rfl _ _ 35 rfl w.heap.size 22 i0 (.slice none 0 0) 1 24 Try.underlying35 hi hz0 hz1 hz2 rfl (by decide) _ _ _ rfl OA.out ⟨w1.heap.size, 0, none⟩ 1 1 [.slice q1 zs.length d1] rfl rfl ?_ ?_ ?_ ?_ ?_ ?_)
      · intro j u hj
        cases j with
        | zero => cases hj; go_cell
        | succ j => cases hj
      · intro x hx
        cases List.mem_singleton.1 hx
        rfl
      · unfold maxLen; omega
      · omega
      · exact BA.out.size
      intro v' w5 hown' hgrow _
      have B5 := Lib.hid (BA.out.grown hgrow BA.out.size (fun q' hq' => (OA.out.lt q' hq').1))
      have K5 := KI.grown OA.out (by decide) hgrow
      have P5 : Hid (Pts w.heap.size zs w5 (vs ++ [.slice q1 zs.length d1])) := Lib.hid (fun i v hv => by
        rcases Nat.lt_trichotomy i vs.length with h | rfl | h
        · rw [List.getElem?_append_left h] at hv
          exact own_KI K5 (PA.out i v hv)
        · rw [List.getElem?_append_right (Nat.le_refl _), Nat.sub_self] at hv
          cases hv
          rw [hvs]
          exact own_KI K5 VA.out
        · rw [List.getElem?_eq_none (by simp; omega)] at hv
          cases hv)
      have O5 := Lib.hid hown'
      obtain ⟨q5, d5, rfl⟩ := own_slice hown'
      clear hown' hgrow OA PA VA BA K5
      go_wp2
      go_roundw
      case rel => exact ⟨k + 1, _, by go_num, by omega, by simp [hvs], B5, O5, P5⟩
      case measure => simp [intOf]; omega
    · have k1 : decide ((k : Int) < C) = false := decide_eq_false hlt
      go_wp2
      go_ret
      exact ⟨_, vs, rfl, by rw [HC.out]; omega, HB.out, by rw [hvs]; exact HO.out, HP.out⟩
end Go.Proofs.Ytkdfidjoighknaa.Bx
