/- Tighten of the reference, in full. -/
import Derived.Test.YtbicmlkjonaccaaDoorK20
import Derived.Test.YtbicmlkjonaccaaDoorE30
import Derived.Test.YtbicmlkjonaccaaDoorE32
import Derived.Test.YtbicmlkjonaccaaDoorE32b
import Derived.Test.YtbicmlkjonaccaaDoorE33
import Derived.Test.YtbicmlkjonaccaaDoorK15
import Derived.Test.YtbicmlkjonaccaaDoorK22
import Derived.Test.YtbicmlkjonaccaaDoorE19

namespace Go.Proofs.YtbicmlkjonaccaaDoor.Ln
open Go.ChangeShapes Go.WideShapes Go.ChangeAt Go.RowKit
open Go.Proofs.YtbicmlkjonaccaaDoor.Nm
set_option linter.unusedVariables false
set_option linter.unusedSimpArgs false
set_option maxRecDepth 8000

theorem tig2 (k : Int) (p : Option Addr) (xs : List Mo) (c : Nat) (eq : Bool) (w : World) (hn : xs.length <= 1000) (RA : Hid (SlM w p xs)) (RS : Hid (∀ i, i < xs.length -> (xs.getD i mo0).1.size <= maxLen /\ -9223372036854775808 <= (xs.getD i mo0).2 /\ (xs.getD i mo0).2 <= 9223372036854775807)) (k1 : -9223372036854775808 <= k) (k2 : k <= 9223372036854775807) : Calls Tryd.prog 29 #[Cv k p xs.length c eq] w (TQ (tgR k xs eq) w) := by
 obtain ⟨R, hR⟩ : ∃ R, tgR k xs eq = R := ⟨_, rfl⟩
 rw [hR]
 unfold tgR at hR
 cases hok : okL xs
 ·rw [if_pos hok] at hR
  subst hR
  exact rtig_bad k p xs c eq w hn RA RS k1 k2 hok
 ·rw [if_neg (by rw [hok]; decide)] at hR
  by_cases h0 : xs.length = 0
  ·rw [if_pos h0] at hR
   subst hR
   exact rtig_const k p xs c eq w hn RA RS k1 k2 hok h0
  ·rw [if_neg h0] at hR
   cases eq
   ·rw [if_neg (by simp), if_neg (by simp)] at hR
    subst hR
    exact rtig_ge k p xs c w hn RA RS k1 k2 hok h0
   ·cases hx : (k % (gcdL 0 xs : Int) == 0)
    ·rw [if_pos (by rw [hx]; rfl)] at hR
     subst hR
     exact rtig_no k p xs c w hn RA RS k1 k2 hok h0 hx
    ·rw [if_neg (by rw [hx]; decide)] at hR
     cases hneg : decide (((tdY (gcdL 0 xs) xs).getD 0 mo0).2 < 0)
     ·rw [if_neg (by rw [hneg]; decide)] at hR
      subst hR
      exact rtig_eq k p xs c w hn RA RS k1 k2 hok h0 hx hneg
     ·rw [if_pos (by rw [hneg]; rfl)] at hR
      exact rtig_turn k p xs c w hn RA RS k1 k2 hok h0 hx hneg R hR
end Go.Proofs.YtbicmlkjonaccaaDoor.Ln


namespace Go.Proofs.YtbicmlkjonaccaaDoor.Ln
open Go.ChangeShapes Go.WideShapes Go.ChangeAt Go.RowKit
open Go.Proofs.YtbicmlkjonaccaaDoor.Nm
set_option linter.unusedVariables false
set_option linter.unusedSimpArgs false
set_option maxRecDepth 8000

theorem nrm2 (p : Option Addr) (l : List Qm) (c : Nat) (w : World) (hl : l.length <= 1000) (RA : Hid (SlQ w p l)) (QK : Hid (bdQ l)) : Calls Tryd.prog 37 #[.slice p l.length c] w (NZ l w) := by
 rcases Nat.lt_or_ge 256 l.length with h | h
 ·exact rnz_lim p l c w hl h
 ·refine rnz_main p l c w h RA (Lib.hid fun f hf => ?_) (Lib.hid fun f hf p c w' hS => tig2 f.1 p f.2.1 c f.2.2 w' (Nat.le_trans (QK.out f hf).1 (by decide)) (Lib.hid hS) (Lib.hid fun i hi => (QK.out f hf).2.2 _ (getD_mem hi)) (QK.out f hf).2.1.1 (QK.out f hf).2.1.2)
  have h1 := tgQ_len f
  have h2 := (QK.out f hf).1
  unfold maxLen
  omega
end Go.Proofs.YtbicmlkjonaccaaDoor.Ln


namespace Go.Proofs.YtbicmlkjonaccaaDoor.Ln
open Go.ChangeShapes Go.WideShapes Go.ChangeAt Go.RowKit
open Go.Proofs.YtbicmlkjonaccaaDoor.Nm
set_option linter.unusedVariables false
set_option linter.unusedSimpArgs false
set_option maxRecDepth 8000

set_option maxRecDepth 100000 in
set_option maxHeartbeats 8000000 in
theorem law_cnorm (p : Option Addr) (l : List Qm) (c : Nat) (w : World) (hn : l.length <= maxLen) (RA : Hid (SlQ w p l)) (AQ : Hid (argQ l)) (hL : Hid (∀ w', Below w.heap.size w w' -> LA w')) :
  Calls Tryd.prog 11 #[.slice p l.length c] w fun e w' => e = .returned (.bool true) /\ Below w.heap.size w w' := by
 have SM := Lib.hid (small6 p l c 300 w hn (Lib.hid fun f hf => (AQ.out f hf).2.1) (by decide) RA)
 have EX := Lib.hid fun w h => exam6 w h
 have KX : Hid (Below w.heap.size w w) := Lib.hid (Below.refl _ _)
 cases hsm : smQ 300 l
 ·rw [hsm] at SM
  clear hsm
  go_enter Tryd.func11, Tryd.ntmps11
  go_wp2_with (first | (go_at_call 20; refine SM.out.mono ?_; rintro e w9 ⟨rfl, rfl⟩) | (go_at_call 21; (with_reducible refine (EX.out _ (Lib.hid fun w' h => hL.out _ (KX.out.trans (h.mono KX.out.size)))).mono ?_); rintro e wx ⟨rfl, hbx⟩))
  go_ret
  exact ⟨rfl, hbx⟩
 ·have HB := smQ_bd hsm
  rw [hsm] at SM
  clear hsm
  have QK : Hid (bdQ l) := Lib.hid fun f hf => ⟨HB.2 f hf, (AQ.out f hf).1, (AQ.out f hf).2.2⟩
  have hl : l.length <= 1000 := Nat.le_trans HB.1 (by decide)
  have N1 := Lib.hid fun w h1 => nrm1 p l c w hl h1 QK
  have N2 := Lib.hid fun w h1 => nrm2 p l c w hl h1 QK
  have CE : Hid (∀ (al : List Qm) (aok : Bool) (aer : Int) (q1 q2 : Option Addr) (d1 d2 : Nat) (w : World), NzR l (al, aok, aer) -> Hid (SlQ w q1 al) -> Hid (SlQ w q2 al) -> Calls Tryd.prog 33 #[.slice q1 al.length d1, .slice q2 al.length d2] w fun e w' => e = .returned (.bool true) /\ Below w.heap.size w w') := Lib.hid fun al aok aer q1 q2 d1 d2 w hz h1 h2 => by
   obtain ⟨f1, f2⟩ := nz_facts hz
   refine consEq q1 q2 al d1 d2 w (Nat.le_trans f1 hl) (Lib.hid fun t ht => ?_) h1 h2
   obtain ⟨f, hf, hT⟩ := keep_mem (f2 t ht)
   have h1 := tgQ_len f
   rw [hT] at h1
   have h2 := (QK.out f hf).1
   dsimp only at h1
   unfold maxLen
   omega
  obtain ⟨n, hnn⟩ : ∃ n, l.length = n := ⟨_, rfl⟩
  rw [hnn] at SM N1 N2 ⊢
  unfold NZ at N1 N2
  clear HB hn hl hnn
  go_enter Tryd.func11, Tryd.ntmps11
  go_wp2_with (first | (go_at_call 20; refine SM.out.mono ?_; rintro e w9 ⟨rfl, rfl⟩) | (go_at_call 36; (with_reducible refine (N1.out _ RA).mono ?_); rintro e w1 ⟨⟨al, aok, aer⟩, q1, d1, hz1, rfl, S1, ld1, hb1⟩; dsimp only at S1 ld1 ⊢; have HZ1 := Lib.hid hz1; have SA := Lib.hid S1; have KA := Lib.hid hb1; have g1 : (aok == aok) = true := (by simp); have g2 : (aer == aer) = true := (by simp); clear hz1 S1 hb1) | (go_at_call 37; (with_reducible refine (N2.out _ (Lib.hid (SlQ.keep KA.out RA.out))).mono ?_); rintro e w2 ⟨⟨bl, bok, ber⟩, q2, d2, hz2, rfl, S2, ld2, hb2⟩; dsimp only at S2 ld2 ⊢; have hzu := NzR.uniq hz2 HZ1.out; cases hzu; have SB := Lib.hid S2; have SA2 := Lib.hid (SlQ.keep hb2 SA.out); have KB := Lib.hid (KA.out.trans (hb2.mono KA.out.size)); clear hz2 S2 hb2) | (go_at_call 33; (with_reducible refine (CE.out al aok aer q1 q2 d1 d2 _ HZ1.out SA2 SB).mono ?_); rintro e w3 ⟨rfl, hb3⟩; have KC := Lib.hid (KB.out.trans (hb3.mono KB.out.size)); clear hb3) | (go_at_call 21; (with_reducible refine (EX.out _ (Lib.hid fun w' h => hL.out _ (KC.out.trans (h.mono KC.out.size)))).mono ?_); rintro e wx ⟨rfl, hbx⟩))
  go_ret
  exact ⟨rfl, KC.out.trans (hbx.mono KC.out.size)⟩
end Go.Proofs.YtbicmlkjonaccaaDoor.Ln
