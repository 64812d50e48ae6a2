/- Specs: the statement on origins: its walk. -/
import Derived.Test.YtndmpoomdoojpaaS14
import Derived.Test.YtndmpoomdoojpaaS11
namespace Go.Proofs.Ytndmpoomdoojpaa.Sh
open Go.ChangeShapes Go.WideShapes Go.ChangeAt Go.RowKit
set_option linter.unusedVariables false
set_option linter.unusedSimpArgs false
set_option maxRecDepth 100000 in
set_option maxHeartbeats 32000000 in
theorem law13 (p q p2 : Option Addr) (ms ss zs : List Int) (c d c2 : Nat) (a : Int) (w : World) (hm : ms.length ≤ maxLen) (hn : ss.length ≤ maxLen) (hz : zs.length ≤ maxLen) (hd : ss.length ≤ d) (RM : Hid (SlI w p ms)) (RS : Hid (SlI w q ss)) (RZ : Hid (SlI w p2 zs)) :
    Calls Try.prog 13 #[.agg #[.slice p ms.length c, .slice q ss.length d], .slice p2 zs.length c2, .int .i64 a] w (Ret (.bool true) w) := by
  have AL := Lib.hid alive
  have CS := Lib.hid fun u => small1 p p2 q ms.length zs.length ss.length c c2 d u hm hz hn
  have BA := (Below.refl w.heap.size w).alloc (Nat.le_refl _) (Obj.cells #[Value.slice p ms.length c, Value.slice q ss.length d] 51)
  have hx0 : (w.alloc (Obj.cells #[Value.slice p ms.length c, Value.slice q ss.length d] 51)).cell? ⟨w.heap.size, 0, none⟩ = some (.slice p ms.length c) := by go_cell
  have hx1 : (w.alloc (Obj.cells #[Value.slice p ms.length c, Value.slice q ss.length d] 51)).cell? ⟨w.heap.size, 1, none⟩ = some (.slice q ss.length d) := by go_cell
  have hlt0 : w.heap.size < (w.alloc (Obj.cells #[Value.slice p ms.length c, Value.slice q ss.length d] 51)).heap.size := by simp
  have BX1 := Lib.hid (show BX _ _ w _ from ⟨BA, hlt0, hx0, hx1⟩)
  have CL := Lib.hid fun u (hu : Below w.heap.size w u) => origin1 p p2 q ms zs ss c c2 d a u hm hz hn hd (Lib.hid (SlI.keep hu RM.out)) (Lib.hid (SlI.keep hu RZ.out)) (Lib.hid (SlI.keep hu RS.out))
  have CRL := Lib.hid fun u (hu : Below w.heap.size w u) => rorigin1 p p2 q ms zs ss c c2 d a u hm hz hn hd (Lib.hid (SlI.keep hu RM.out)) (Lib.hid (SlI.keep hu RZ.out)) (Lib.hid (SlI.keep hu RS.out))
  generalize oE ms zs ss a = V at CL CRL
  generalize hl9 : oL ms zs ss a = l at CL CRL
  generalize (decide (ms.length ≤ 20) && (decide (zs.length ≤ 20) && decide (ss.length ≤ 20))) = B at CS
  clear BA hl9 hz
  go_enter Try.func13, Try.ntmps13
  go_wp2_with fail
  generalize w.alloc (Obj.cells #[Value.slice p ms.length c, Value.slice q ss.length d] 51) = wb at *
  refine (CS.out _).mono ?_
  rintro e w1 ⟨rfl, hb⟩
  have X1 := BX1.out.keep hb
  have HX1 := Lib.hid X1
  obtain ⟨_, _, hy0, hy1⟩ := X1
  clear hb BX1 hx0 hx1 hlt0
  cases B
  · go_wp2_with fail
    refine (AL.out _).mono ?_
    rintro e w2 ⟨rfl, hb⟩
    have X2 := Lib.hid (HX1.out.keep hb).1
    clear hb
    go_wp2
    go_ret
    exact ⟨rfl, X2.out⟩
  · go_wp2_with fail
    refine (CL.out _ HX1.out.1).mono ?_
    rintro e w2 hq
    obtain ⟨qa, ca, rfl, ha1, ha2, hb, hSa⟩ := ret_lsv hq
    have X2 := HX1.out.keep hb
    have HX2 := Lib.hid X2
    obtain ⟨_, _, hz0, hz1⟩ := X2
    clear hb HX1 hy0 hy1 hq
    go_wp2_with fail
    refine (CRL.out _ HX2.out.1).mono ?_
    rintro e z hq
    obtain ⟨qb, cb, rfl, hb1, hb2, hb, hSb⟩ := ret_lsv hq
    have HX3 := Lib.hid (HX2.out.keep hb).1
    have hSa := Lib.hid (SlI.keep hb hSa.out)
    clear hb HX2 hz0 hz1 hq
    have hlm : l.length ≤ maxLen := Nat.le_trans ha1 ha2
    have CI := Lib.hid (ints1 qa qb l l ca cb z hlm hlm hSa hSb)
    rw [decide_eq_true (rfl : l = l)] at CI
    clear hSa hSb CL CRL CS hm hn
    go_wp2_with fail
    refine CI.out.mono ?_
    rintro e u ⟨rfl, kd, rfl⟩
    have KD := Lib.hid (below_drewN HX3.out kd)
    generalize z.drewN kd = zd at *
    go_wp2_with fail
    refine (AL.out _).mono ?_
    rintro e w5 ⟨rfl, hb⟩
    have KY := Lib.hid (KD.out.trans (hb.mono KD.out.size))
    clear hb
    go_wp2
    go_ret
    exact ⟨rfl, KY.out⟩
theorem law13w (p : Option Addr) (ms : List Int) (c : Nat) (q : Option Addr) (ss : List Int) (d : Nat) (p2 : Option Addr) (zs : List Int) (c2 : Nat) (a : Int) (w : World) (h1 : ms.length ≤ c) (h2 : c ≤ maxLen) (RM : Hid (SlI w p ms)) (h3 : ss.length ≤ d) (h4 : d ≤ maxLen) (RS : Hid (SlI w q ss)) (h5 : zs.length ≤ c2) (h6 : c2 ≤ maxLen) (RZ : Hid (SlI w p2 zs)) (_ : ∀ z ∈ zs, -9223372036854775808 ≤ z ∧ z ≤ 9223372036854775807) (_ : -9223372036854775808 ≤ a ∧ a ≤ 9223372036854775807) :
    Calls Try.prog 13 #[.agg #[.slice p ms.length c, .slice q ss.length d], .slice p2 zs.length c2, .int .i64 a] w (Ret (.bool true) w) :=
  law13 p q p2 ms ss zs c d c2 a w (Nat.le_trans h1 h2) (Nat.le_trans h3 h4) (Nat.le_trans h5 h6) h3 RM RS RZ
end Go.Proofs.Ytndmpoomdoojpaa.Sh
