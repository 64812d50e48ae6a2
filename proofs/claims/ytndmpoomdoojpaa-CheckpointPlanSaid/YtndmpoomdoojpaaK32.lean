/- The statement on plans: its walk. -/
import Derived.Test.YtndmpoomdoojpaaRows
import Derived.WalkKit
import Derived.ProofKit
import Derived.OpenShut
import Derived.WalkLawsBesides
import Derived.WalkSpells
import Derived.Outline
import Derived.Handy
import Derived.IntWalk
import Derived.Deep.QuietTactic
import Derived.BigQuiet
import Derived.Lib.Hide
import Derived.Test.YtndmpoomdoojpaaK30
import Derived.Test.YtndmpoomdoojpaaK31
import Derived.Test.YtndmpoomdoojpaaK20
import Derived.Test.YtndmpoomdoojpaaK5
namespace Go.Proofs.Ytndmpoomdoojpaa.Ck
open Go.ChangeShapes Go.WideShapes Go.ChangeAt Go.RowKit
set_option linter.unusedVariables false

def RT (w : World) (e : Ending) (w' : World) : Prop := e = .returned (.bool true) ∧ Below w.heap.size w w'
set_option maxHeartbeats 8000000 in
theorem lawp_no (n s : Int) (w : World) (h : inr n s = false) : Calls Try.prog 8 #[.int .i64 n, .int .i64 s] w (RT w) := by
  have EX := Lib.hid ex28
  have C := Lib.hid (plan_no n s w h)
  have A := Lib.hid (fun u => asked n s u)
  rw [show ask n s = 1 by unfold ask; rw [h]; rfl] at A
  go_enter Try.func8, Try.ntmps8
  go_wp2_with fail
  refine C.out.mono ?_
  rintro e w1 ⟨v, rfl, hb, ho⟩
  obtain ⟨q, c, rfl⟩ := own_form ho
  have K := Lib.hid hb
  clear hb ho
  rw [List.length_nil]
  go_wp2_with fail
  refine (A.out _).mono ?_
  rintro e w' ⟨rfl, rfl⟩
  go_wp2_with fail
  refine (EX.out _).mono ?_
  rintro e w9 ⟨rfl, hb⟩
  have K9 := Lib.hid (K.out.trans (hb.mono K.out.size))
  clear hb
  go_wp2
  go_ret
  exact ⟨rfl, K9.out⟩
set_option maxHeartbeats 8000000 in
theorem lawp_ok (n s : Nat) (w : World) (hn : n ≤ 64) (hs : s ≤ 64) : Calls Try.prog 8 #[.int .i64 (n : Int), .int .i64 (s : Int)] w (RT w) := by
  have EX := Lib.hid ex28
  have C := Lib.hid (plan_ok n s w hn hs)
  have A := Lib.hid (fun u => asked (n : Int) (s : Int) u)
  rw [show ask (n : Int) (s : Int) = 0 by unfold ask; rw [inr_ok (by omega)]; rfl] at A
  have hck := pl_ck (n := n) (s := s) (by omega) (by omega)
  have hpk := pl_peak (n := n) (s := s)
  have hbd := pl_bd n n s 0 (-1) 0 (Int.le_refl _) (by omega) (Int.le_refl _) (by omega) (by omega) (by omega)
  have hlen := (pl_len n n s 0 (-1) 0 (Nat.le_refl _) (by omega) (by omega)).1
  have hcb := co_bd (n := (n : Int)) (s := (s : Int)) (by omega) (by omega) (by omega) (by omega)
  have CO := Lib.hid fun u => cost_ok (n := (n : Int)) (s := (s : Int)) (by omega) u
  obtain ⟨V, hV⟩ : ∃ V, co (n : Int) (s : Int) = V := ⟨_, rfl⟩
  rw [hV] at hck CO hlen hcb
  generalize pl n 0 n s (-1) 0 = L at *
  have hl : L.length ≤ 65536 := by omega
  have hget : ∀ i, i < L.length → L.getD i (0, 0, 0) ∈ L := fun i hi => by rw [List.getD, List.getElem?_eq_getElem hi]; exact List.getElem_mem hi
  have CP := Lib.hid fun (u : World) (p : Option Addr) (c : Nat) (R : Hid (SlA u p L)) => cp p L c (n : Int) (s : Int) u (by unfold maxLen; omega) R
  have CR := Lib.hid fun (u : World) (p : Option Addr) (c : Nat) (R : Hid (SlA u p L)) => rcp p L c (n : Int) (s : Int) u (by unfold maxLen; omega) R (Lib.hid fun i hi => by have := hbd _ (hget i hi); omega)
  have CK := Lib.hid fun (u : World) (p : Option Addr) (c : Nat) (R : Hid (SlA u p L)) => peak p L c u hl R (Lib.hid fun i hi => by have := hbd _ (hget i hi); omega)
  rw [hck] at CP CR
  obtain ⟨pk, hp9⟩ : ∃ pk, (pkS L L.length).length = pk := ⟨_, rfl⟩
  rw [hp9] at CK hpk
  have d1 : decide ((pk : Int) ≤ (s : Int)) = true := decide_eq_true (by omega)
  have OWN := Lib.hid (fun (u : World) (v : Value) (h : u.ownsRow w.heap.size 66 3 v L.length (acs L)) => own_slA h)
  obtain ⟨ll, hll⟩ : ∃ n, L.length = n := ⟨_, rfl⟩
  unfold PLW at C
  rw [hll] at C CP CR CK OWN
  have e1 : decide (pk ≤ s) = true := decide_eq_true hpk
  clear hV hck hbd hlen hcb hl hget hp9 hll
  go_enter Try.func8, Try.ntmps8
  go_wp2_with fail
  refine C.out.mono ?_
  rintro e w1 ⟨v, rfl, hb, ho⟩
  obtain ⟨q, c, rfl, SA⟩ := OWN.out _ _ ho
  have K := Lib.hid hb
  have R1 := Lib.hid SA
  clear hb ho SA C OWN
  go_wp2_with fail
  refine (A.out _).mono ?_
  rintro e w' ⟨rfl, rfl⟩
  go_wp2_with fail
  refine (CP.out _ q c R1).mono ?_
  rintro e w2 ⟨rfl, hb⟩
  have R2 := Lib.hid (SlA.keep hb R1.out)
  replace K := Lib.hid (K.out.trans (hb.mono K.out.size))
  clear hb R1 CP
  unfold NE
  go_wp2_with fail
  refine (CR.out _ q c R2).mono ?_
  rintro e w3 ⟨rfl, hb⟩
  have R3 := Lib.hid (SlA.keep hb R2.out)
  replace K := Lib.hid (K.out.trans (hb.mono K.out.size))
  clear hb R2 CR
  unfold NE
  go_wp2_with fail
  refine (CO.out _).mono ?_
  rintro e w' ⟨rfl, rfl⟩
  go_wp2_with fail
  refine (CK.out _ q c R3).mono ?_
  rintro e w4 ⟨rfl, hb⟩
  replace K := Lib.hid (K.out.trans (hb.mono K.out.size))
  clear hb R3 CK
  go_wp2_with fail
  refine (EX.out _).mono ?_
  rintro e w9 ⟨rfl, hb⟩
  have K9 := Lib.hid (K.out.trans (hb.mono K.out.size))
  clear hb
  go_wp2
  go_ret
  exact ⟨rfl, K9.out⟩
theorem law_plan (n s : Int) (w : World) (_ : -9223372036854775808 ≤ n ∧ n ≤ 9223372036854775807) (_ : -9223372036854775808 ≤ s ∧ s ≤ 9223372036854775807) : Calls Try.prog 8 #[.int .i64 n, .int .i64 s] w (RT w) := by
  by_cases h : 0 ≤ n ∧ n ≤ 64 ∧ 0 ≤ s ∧ s ≤ 64
  · obtain ⟨a, rfl, ha⟩ := nat_of h.1 h.2.1
    obtain ⟨b, rfl, hb⟩ := nat_of h.2.2.1 h.2.2.2
    exact lawp_ok a b w (by omega) (by omega)
  · exact lawp_no n s w (inr_no h)
end Go.Proofs.Ytndmpoomdoojpaa.Ck
