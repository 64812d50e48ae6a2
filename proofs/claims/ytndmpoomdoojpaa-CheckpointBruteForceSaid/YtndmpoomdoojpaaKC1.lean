/- BruteForceCost. -/
import Derived.Test.YtndmpoomdoojpaaRows
import Derived.WalkKit
import Derived.ProofKit
import Derived.OpenShut
import Derived.WalkLawsBesides
import Derived.WalkSpells
import Derived.Outline
import Derived.Handy
import Derived.IntWalk
import Derived.Deep.QuietTactic
import Derived.BigQuiet
import Derived.Lib.Hide
import Derived.Maps.AppendAt
import Derived.Deep.Cut
import Derived.Test.YtndmpoomdoojpaaK1
import Derived.Test.YtndmpoomdoojpaaKB8
namespace Go.Proofs.Ytndmpoomdoojpaa.Ck.Bf
open Go.ChangeShapes Go.WideShapes Go.ChangeAt Go.RowKit Go.Proofs.Ytndmpoomdoojpaa.Ck
set_option linter.unusedVariables false


theorem info4 : (Try.prog.info? 4).map (fun i => (i.zero, i.size, i.bytes)) = some (some (.bool false), 1, 1) := by kernel_rfl
theorem own_low {w w' : World} {base : Nat} {e : TypeId} {size : Nat} {v : Value} {n : Nat} {xs : List Value} (h : w.ownsRow base e size v n xs) (hb : Below w.heap.size w w') : w'.ownsRow base e size v n xs := by
  obtain ⟨hl, h0 | ⟨g, cap, cur, hv, hb', hh, r⟩⟩ := h
  · exact ⟨hl, .inl h0⟩
  · have hg : g < w.heap.size := by
      rcases Nat.lt_or_ge g w.heap.size with h1 | h1
      · exact h1
      · rw [Array.getElem?_eq_none h1] at hh; cases hh
    exact ⟨hl, .inr ⟨g, cap, cur, hv, hb', (hb.block g hg).trans hh, r⟩⟩
theorem own_two {w : World} {b1 b2 : Nat} {s1 s2 n1 n2 : Nat} {v1 v2 : Value} {x1 x2 : List Value} (h1 : w.ownsRow b1 4 s1 v1 n1 x1) (h2 : w.ownsRow b2 69 s2 v2 n2 x2) : v1.ownBlock = none ∨ v1.ownBlock ≠ v2.ownBlock := by
  rcases h1.2 with ⟨rfl, _⟩ | ⟨g1, c1, u1, rfl, _, hh1, _⟩
  · exact .inl rfl
  · right
    rcases h2.2 with ⟨rfl, _⟩ | ⟨g2, c2, u2, rfl, _, hh2, _⟩
    · intro e; cases e
    · intro e
      have e' : g1 = g2 := Option.some.inj e
      subst e'
      rw [hh1] at hh2
      have := Option.some.inj hh2
      cases this
theorem below_own {w w' : World} {B : Nat} (hB : B ≤ w.heap.size) (h : w.grownBy w' none) : Below B w w' := ⟨h.os, h.tape, h.output, h.size, fun k hk => h.block k (Nat.lt_of_lt_of_le hk hB) (by simp)⟩
/-- BruteForceCost's answers. -/
def bfE (n s : Int) : Int := if inr n s = true then (if 12 < n then 2 else 0) else 1
def bfV (n s : Int) : Int := if inr n s = true ∧ n ≤ 12 then co n s else 0
/-- What holds while the search runs. -/
structure BI (N S c g M : Nat) (w wr : World) (sn : List Bool) (fr nx : List Nd) (fv nv : Value) : Prop where
  bf : Bf N S c sn fr nx
  sz : Sz sn fr nx M
  se : wr.ownsRow w.heap.size 4 1 (.slice (some ⟨g, 0, none⟩) M M) M (sn.map Value.bool)
  fo : wr.ownsRow w.heap.size 69 3 fv fr.length (fl3 fr)
  no : wr.ownsRow w.heap.size 69 3 nv nx.length (fl3 nx)
  ap : nv.ownBlock = none ∨ nv.ownBlock ≠ fv.ownBlock
  be : Below w.heap.size w wr
theorem mx_num {N : Nat} (hN : N ≤ 12) : nm (12, 12, 2 ^ (max N 1) - 1) + 1 = 2 ^ (max N 1) * 169 := by
  have h : 1 ≤ 2 ^ (max N 1) := Nat.two_pow_pos _
  unfold nm
  simp only
  omega

set_option maxRecDepth 100000 in
set_option maxHeartbeats 2000000 in
theorem bf_no (n s : Int) (w : World) (h : ¬ (0 ≤ n ∧ n ≤ 64 ∧ 0 ≤ s ∧ s ≤ 64)) : Calls Try.prog 24 #[.int .i64 n, .int .i64 s] w fun e w' => e = NE 0 1 ∧ Below w.heap.size w w' := by
  have C := Lib.hid (fun u => inRange n s u)
  rw [inr_no h] at C
  clear h
  go_enter Try.func24, Try.ntmps24
  go_wp2_with (go_at_call 46; refine (C.out _).mono ?_; rintro e w' ⟨rfl, rfl⟩)
  refine bodyPost_ret (v := .tuple #[.int .i64 0, .int .i64 1]) (by simp [results, Try.results24, go_sem]) rfl ⟨rfl, Below.refl _ _⟩
set_option maxRecDepth 100000 in
set_option maxHeartbeats 2000000 in
theorem bf_big (n s : Int) (w : World) (h : 0 ≤ n ∧ n ≤ 64 ∧ 0 ≤ s ∧ s ≤ 64) (h12 : 12 < n) : Calls Try.prog 24 #[.int .i64 n, .int .i64 s] w fun e w' => e = NE 0 2 ∧ Below w.heap.size w w' := by
  have C := Lib.hid (fun u => inRange n s u)
  rw [inr_ok h] at C
  have g1 : decide ((12 : Int) < n) = true := decide_eq_true h12
  clear h
  go_enter Try.func24, Try.ntmps24
  go_wp2_with (go_at_call 46; refine (C.out _).mono ?_; rintro e w' ⟨rfl, rfl⟩)
  refine bodyPost_ret (v := .tuple #[.int .i64 0, .int .i64 2]) (by simp [results, Try.results24, go_sem]) rfl ⟨rfl, Below.refl _ _⟩
set_option maxRecDepth 100000 in
set_option maxHeartbeats 4000000 in
theorem bf_go (N S : Nat) (w : World) (hN : N ≤ 12) (hS : S ≤ 64) : Calls Try.prog 24 #[.int .i64 (N : Int), .int .i64 (S : Int)] w fun e w' => e = NE (co N S) 0 ∧ Below w.heap.size w w' := by
  have C := Lib.hid (fun u => inRange (N : Int) (S : Int) u)
  rw [inr_ok (by omega)] at C
  obtain ⟨V, hV⟩ : ∃ V, co (N : Int) (S : Int) = V := ⟨_, rfl⟩
  have HV := Lib.hid hV
  rw [hV]
  unfold NE
  clear hV
  have g1 : decide ((12 : Int) < N) = false := by simp; omega
  have g1' : decide (12 < N) = false := by simp; omega
  go_enter Try.func24, Try.ntmps24
  obtain ⟨mx, hmx⟩ : ∃ x, max N 1 = x := ⟨_, rfl⟩
  have hpow : 2 ^ mx ≤ 4096 := Nat.le_trans (Nat.pow_le_pow_right (by decide) (show mx ≤ 12 by omega)) (by decide)
  have hpow1 : 1 ≤ 2 ^ mx := Nat.two_pow_pos _
  obtain ⟨M, hM⟩ : ∃ x, 2 ^ (max N 1) * 169 = x := ⟨_, rfl⟩
  have hnum := mx_num hN
  rw [hM, hmx] at hnum
  have hM9 : M ≤ 692224 := by rw [← hM]; exact M_le hN
  have BF0 := Bf.start (N := N) (S := S) hN hS
  rw [hM] at BF0
  obtain ⟨T, hT⟩ : ∃ x, 2 ^ mx - 1 = x := ⟨_, rfl⟩
  have hif : (if (N : Int) < 1 then 1 else (N : Int)) = (mx : Int) := by split <;> omega
  have HE : Hid (wrap64 (wrap64 (2 ^ mx) - 1) = (T : Int)) := Lib.hid (by
    have w1 : ∀ x : Int, 0 ≤ x → x < 5000 → wrap64 x = x := fun x h1 h2 => by unfold wrap64; omega
    have e2 : (2 : Int) ^ mx = ((2 ^ mx : Nat) : Int) := by push_cast; rfl
    obtain ⟨y, hy⟩ : ∃ y, 2 ^ mx = y := ⟨_, rfl⟩
    rw [hy] at hpow hpow1 hT e2
    rw [e2, w1 (y : Int) (by omega) (by omega), w1 ((y : Int) - 1) (by omega) (by omega)]
    omega)
  have NMB0 := fun u => number 12 12 T u (by decide) (by decide) (by omega)
  rw [hT] at hnum
  obtain ⟨q0, hq0⟩ : ∃ q, nm (12, 12, T) = q := ⟨_, rfl⟩
  rw [hq0] at NMB0 hnum
  have NMB := Lib.hid NMB0
  have hq : (q0 : Int) + 1 = (M : Int) := by omega
  have hq1 : (q0 : Int) ≤ 692223 := by omega
  have HM := Lib.hid hM
  have HM9 := Lib.hid hM9
  have HBF := Lib.hid BF0
  clear hmx hpow hpow1 hM hnum hT hq0 NMB0 BF0
  obtain ⟨j1, hj, hj0, hj1, hj2⟩ := info_parts info4
  go_upto_region 6 with (first | (go_at_call 46; refine (C.out _).mono ?_; rintro e w' ⟨rfl, rfl⟩) | (go_at_call 48; rw [HE.out]; refine (NMB.out _).mono ?_; rintro e wa ⟨rfl, hb⟩; have KA := Lib.hid hb; clear hb) | (refine wpList_make_full _ rfl _ _ 67 rfl w.heap.size 4 j1 (.bool false) 1 Try.underlying67 hj hj0 hj1 .i64 .i64 _ _ M rfl rfl rfl rfl (by rw [hj2]; omega) (by unfold maxLen; omega) KA.out.size ?_; intro w5 hown hg; have HOW := Lib.hid hown; have KG := Lib.hid (KA.out.trans (Below.mono (below_own (Nat.le_refl _) hg) KA.out.size)); clear hown hg hj hj0 hj1 hj2 j1))
  have HSE : Hid (w5.ownsRow w.heap.size 4 1 (.slice (some ⟨wa.heap.size, 0, none⟩) M M) M ((List.replicate M false).map Value.bool)) := Lib.hid (by
    have h := HOW.out
    have e : (madeCells (Value.bool false).cells (M * 1)).toList = (List.replicate M false).map Value.bool := by
      rw [Nat.mul_one, List.map_replicate]
      exact toList_madeCells_one _ _
    rw [e] at h
    exact h)
  obtain ⟨g, hg⟩ : ∃ x, wa.heap.size = x := ⟨_, rfl⟩
  rw [hg] at HSE
  have HB0 : Hid (BI N S 0 g M w (w5.alloc (Obj.cells #[Value.int .i64 0, Value.int .i64 (N : Int), Value.int .i64 0] 69)) (List.replicate M false) [(0, N, 0)] [] (.slice (some ⟨w5.heap.size, 0, none⟩) 1 1) (.slice none 0 0)) := Lib.hid (by
    refine ⟨HBF.out, ?_, HSE.out.alloc _, ?_, World.ownsRow_nil _ _ _ _, .inl rfl, KG.out.alloc KG.out.size _⟩
    · unfold Sz
      rw [un_rep]
      simp
      omega
    · exact World.ownsRow_lit w5 #[Value.int .i64 0, Value.int .i64 (N : Int), Value.int .i64 0] 1 KG.out.size (by decide) rfl)
  clear HOW HBF KA NMB HE C hif hq hq1 HSE KG g1 g1'
  have NUM := Lib.hid fun (a l st : Nat) (h : a ≤ 12 ∧ l ≤ 12 ∧ st ≤ 4096) (u : World) => number a l st u h.1 h.2.1 h.2.2
  have FR1 := Lib.hid fun (a l st : Nat) (p : Option Addr) (n c : Nat) (L : List Nd) (u : World) (h : Wf N S (a, l, st) ∧ 1 ≤ l ∧ w.heap.size ≤ u.heap.size ∧ L.length = n ∧ n ≤ 100000000) (hO : Hid (u.ownsRow w.heap.size 69 3 (.slice p n c) n (fl3 L))) => free1 N S a l st p n c L w.heap.size u hN hS h.1 h.2.1 h.2.2.1 h.2.2.2.1 h.2.2.2.2 hO
  go_upto_region 8 with fail
  rw [hg]
  generalize w5.alloc (Obj.cells #[Value.int .i64 0, Value.int .i64 (N : Int), Value.int .i64 0] 69) = wq at *
  have hV0 : ((0 : Nat) : Int) ≤ V := by rw [← HV.out]; exact HB0.out.bf.hi hN hS
  have hV9 : V ≤ 2016 := by rw [← HV.out]; exact (co_bd (by omega) (by omega) (by omega) (by omega)).2
  generalize w5.heap.size = b5 at *
  clear hg
  go_loopw [7, 8] (fun fv cv wr => ∃ (c m d : Nat) (q : Option Addr) (sn : List Bool) (fr : List Nd), fv = .slice q m d ∧ cv = .int .i64 (c : Int) ∧ fr.length = m ∧ m ≤ 40 * M + 1 ∧ (c : Int) ≤ V ∧ Hid (BI N S c g M w wr sn fr [] (.slice q m d) (.slice none 0 0))) (fun _ cv _ => (V + 1 - intOf cv).toNat)
  case atStart => exact ⟨0, 1, 1, some ⟨b5, 0, none⟩, _, _, rfl, rfl, rfl, by omega, hV0, HB0⟩
  case round =>
    obtain ⟨c, m, d, q, sn, fr, rfl, rfl, hfm, hm, hcV, HI0⟩ := hrel
    clear HB0 hV0
    go_upto_region 10 with fail
    go_loopw [7, 9] (fun fv nv wk => ∃ (m d m2 d2 : Nat) (q q2 : Option Addr) (sn : List Bool) (fr nx : List Nd), fv = .slice q m d ∧ nv = .slice q2 m2 d2 ∧ fr.length = m ∧ nx.length = m2 ∧ m ≤ 40 * M + 1 ∧ m2 ≤ 40 * M + 1 ∧ Hid (BI N S c g M w wk sn fr nx (.slice q m d) (.slice q2 m2 d2))) (fun fv _ wk => 40 * unW g M wk + lenOf fv)
    case atStart => exact ⟨m, d, 0, 0, q, none, sn, fr, [], rfl, rfl, hfm, rfl, hm, Nat.zero_le _, HI0⟩
    case round =>
      clear HI0 hfm hm
      obtain ⟨m, d, m2, d2, q, q2, sn, fr, nx, rfl, rfl, hfm, hnm, hm, hm2, HJ⟩ := hrel
      obtain ⟨bf, sz, se, fo, no, ap, be⟩ := HJ.out
      by_cases hz : 0 < m
      · obtain ⟨fr1, x, hfx⟩ : ∃ fr1 x, fr = fr1 ++ [x] := by
          rcases List.eq_nil_or_concat fr with h | ⟨L, b, h⟩
          · subst h; simp at hfm; omega
          · exact ⟨L, b, by simpa using h⟩
        obtain ⟨a, l, st⟩ := x
        subst hfx
        obtain ⟨m1, hm1⟩ : ∃ m1, fr1.length = m1 := ⟨_, rfl⟩
        have hmm : m = m1 + 1 := by rw [← hfm, List.length_append, hm1]; rfl
        obtain ⟨wfx, -⟩ := bf.wf (a, l, st) (List.mem_append_right _ (List.mem_singleton.2 rfl))
        have hst : st < 4096 := Nat.lt_of_lt_of_le (lt_of_bits fun j hj => (wfx.2.2.1 j hj).2) (Nat.le_trans (Nat.pow_le_pow_right (by decide) hN) (by decide))
        have hsl := bf.len
        rw [HM.out] at hsl
        have hnx : nm (a, l, st) < M := by rw [← HM.out]; exact nm_lt hN wfx
        rw [hfm] at fo
        obtain ⟨gq, rfl, gb, glt, hmd, hdm⟩ := own3_some fo hz
        obtain ⟨x0, x1, x2⟩ := own3_get fo hfm (k := m1) (x := (a, l, st)) (by rw [List.getElem?_append_right (by omega), hm1, Nat.sub_self]; rfl)
        have fo2 := fo
        rw [hmm] at fo2
        have FP := Lib.hid (own3_pop fo2 hm1)
        obtain ⟨kx, hkx⟩ : ∃ kx, nm (a, l, st) = kx := ⟨_, rfl⟩
        have hsc := ownB_get se hsl (k := kx) (by omega)
        have hsf : wr.frozen? ⟨g, kx, none⟩ = false := se.frozenAt kx
        rw [hkx] at hnx
        have WFX := Lib.hid wfx
        have HKX := Lib.hid hkx
        have HM1 := Lib.hid hm1
        have HMM := Lib.hid hmm
        have HFM := Lib.hid hfm
        have HNM := Lib.hid hnm
        have HSL := Lib.hid hsl
        have ha12 : a ≤ 12 := Nat.le_trans wfx.1 hN
        have hl12 : l ≤ 12 := Nat.le_trans wfx.2.1 hN
        have e1 : (m : Int) - 1 = (m1 : Int) := by omega
        have q1 : (0 : Int) ≤ m1 := by omega
        have q2' : (m1 : Int) < m := by omega
        have q3 : m1 ≤ d := by omega
        have q4 : (0 : Int) < m := by omega
        dsimp only at x0 x1 x2
        clear hfm hnm hmm hm1 wfx hkx fo2 hsl fo
        go_upto_region 13 with fail
        have NX : Hid (∀ u, Calls Try.prog 48 #[.agg #[.int .i64 (a : Int), .int .i64 (l : Int), .int .i64 (st : Int)]] u fun e u' => e = .returned (.int .i64 (kx : Int)) ∧ Below u.heap.size u u') := Lib.hid (by
          have h := NUM.out a l st ⟨ha12, hl12, by omega⟩
          rw [HKX.out] at h
          exact h)
        have hap : (Value.slice (some ⟨gq, 0, none⟩) m1 d).ownBlock = none ∨ (Value.slice (some ⟨gq, 0, none⟩) m1 d).ownBlock ≠ some g := apart_symm (own_two se FP.out)
        have hkN : (kx : Int) < M := by omega
        have hk0 : (0 : Int) ≤ kx := by omega
        have KB := Lib.hid ((Below.refl wr.heap.size wr).alloc (Nat.le_refl _) (Obj.cells #[Value.int .i64 (a : Int), Value.int .i64 (l : Int), Value.int .i64 (st : Int)] 69))
        have y0 : (wr.alloc (Obj.cells #[Value.int .i64 (a : Int), Value.int .i64 (l : Int), Value.int .i64 (st : Int)] 69)).cell? ⟨wr.heap.size, 0, none⟩ = some (.int .i64 (a : Int)) := by go_cell
        have y1 : (wr.alloc (Obj.cells #[Value.int .i64 (a : Int), Value.int .i64 (l : Int), Value.int .i64 (st : Int)] 69)).cell? ⟨wr.heap.size, 1, none⟩ = some (.int .i64 (l : Int)) := by go_cell
        have y2 : (wr.alloc (Obj.cells #[Value.int .i64 (a : Int), Value.int .i64 (l : Int), Value.int .i64 (st : Int)] 69)).cell? ⟨wr.heap.size, 2, none⟩ = some (.int .i64 (st : Int)) := by go_cell
        have ylt : wr.heap.size < (wr.alloc (Obj.cells #[Value.int .i64 (a : Int), Value.int .i64 (l : Int), Value.int .i64 (st : Int)] 69)).heap.size := by simp
        obtain ⟨wb, hwb⟩ : ∃ x, wr.alloc (Obj.cells #[Value.int .i64 (a : Int), Value.int .i64 (l : Int), Value.int .i64 (st : Int)] 69) = x := ⟨_, rfl⟩
        rw [hwb] at KB y0 y1 y2 ylt ⊢
        clear hwb x0 x1 x2 e1 q1 q2' q3 q4
        obtain ⟨fl, hfl⟩ : ∃ b, sn.getD kx false = b := ⟨_, rfl⟩
        rw [hfl] at hsc
        have HFL := Lib.hid hfl
        have hgl : g < wr.heap.size := World.block_lt_of_cell? _ _ hsc
        replace hsc : wb.cell? ⟨g, kx, none⟩ = some (.bool fl) := Rg.keep KB.out hgl hsc
        replace hsf : wb.frozen? ⟨g, kx, none⟩ = false := Rg.keepF KB.out hgl hsf
        have SE := Lib.hid se
        have NO := Lib.hid no
        have BE := Lib.hid be
        have SZ0 := Lib.hid sz
        have BFH := Lib.hid bf
        have AP0 := Lib.hid ap
        clear hfl se no be sz bf ap
        cases fl
        · go_upto_region 14 with (go_at_call 48; refine (NX.out _).mono ?_; rintro e wn ⟨rfl, hb⟩; have KN := Lib.hid hb; replace y0 := Rg.keep hb ylt y0; replace y1 := Rg.keep hb ylt y1; replace y2 := Rg.keep hb ylt y2; have hgl2 := Nat.lt_trans hgl ylt; replace hsc := Rg.keep hb hgl2 hsc; replace hsf := Rg.keepF hb hgl2 hsf; replace ylt := Nat.lt_of_lt_of_le ylt hb.size; clear hb hgl2)
          go_upto_region 15 with (go_at_call 48; refine (NX.out _).mono ?_; rintro e wp ⟨rfl, hb⟩; have KP := Lib.hid hb; replace y0 := Rg.keep hb ylt y0; replace y1 := Rg.keep hb ylt y1; replace y2 := Rg.keep hb ylt y2; have hgl2 := Nat.lt_trans hgl ylt; replace hsc := Rg.keep hb hgl2 hsc; replace hsf := Rg.keepF hb hgl2 hsf; replace ylt := Nat.lt_of_lt_of_le ylt hb.size; clear hb hgl2)
          have K9 := KB.out.trans (KN.out.mono KB.out.size)
          have K10 := K9.trans (KP.out.mono K9.size)
          have se2 := own_low SE.out K10
          have st2 := (se2.stored kx (.bool true)).2
          have ses := ownB_set se2 kx
          have fps := (own_low FP.out K10).kept st2 hap
          have hnp : (Value.slice q2 m2 d2).ownBlock = none ∨ (Value.slice q2 m2 d2).ownBlock ≠ some g := apart_symm (own_two SE.out NO.out)
          have nos := (own_low NO.out K10).kept st2 hnp
          have hwg : w.heap.size ≤ g := (SE.out.lt g rfl).1
          have bes := (BE.out.trans (K10.mono BE.out.size)).setCell (p := ⟨g, kx, none⟩) (by dsimp only; omega) (.bool true)
          have s0 : (wp.setCell ⟨g, kx, none⟩ (.bool true)).cell? ⟨wr.heap.size, 0, none⟩ = some (.int .i64 (a : Int)) := (World.cell?_setCell_far _ _ _ _ (Nat.ne_of_lt hgl)).trans y0
          have s1 : (wp.setCell ⟨g, kx, none⟩ (.bool true)).cell? ⟨wr.heap.size, 1, none⟩ = some (.int .i64 (l : Int)) := (World.cell?_setCell_far _ _ _ _ (Nat.ne_of_lt hgl)).trans y1
          have s2 : (wp.setCell ⟨g, kx, none⟩ (.bool true)).cell? ⟨wr.heap.size, 2, none⟩ = some (.int .i64 (st : Int)) := (World.cell?_setCell_far _ _ _ _ (Nat.ne_of_lt hgl)).trans y2
          have hss : (wp.setCell ⟨g, kx, none⟩ (.bool true)).heap.size = wp.heap.size := by simp
          obtain ⟨ws, hws⟩ : ∃ x, wp.setCell ⟨g, kx, none⟩ (.bool true) = x := ⟨_, rfl⟩
          rw [hws] at st2 ses fps nos bes s0 s1 s2 hss ⊢
          have K10s := K10.size
          have SES := Lib.hid ses
          have FPS := Lib.hid fps
          have NOS := Lib.hid nos
          have BES := Lib.hid bes
          clear hws st2 ses fps nos bes se2 y0 y1 y2 hsc hsf ylt K9 K10 KN KP KB
          by_cases hl0 : l = 0
          · have g0 : ((l : Int) == 0) = true := by simp; omega
            have hfound := BFH.out.found hN hS hl0
            have hcv : V = (c : Int) := by rw [← HV.out]; exact hfound
            go_wp2_with fail
            refine bodyPost_ret (v := .tuple #[.int .i64 (c : Int), .int .i64 0]) (by simp [results, Try.results24, go_sem]) rfl ⟨by rw [hcv], BES.out⟩
          · have g0 : ((l : Int) == 0) = false := by rw [beq_eq_false_iff_ne]; omega
            have hun := un_set (sn := sn) (k := kx) (by rw [HSL.out]; omega) HFL.out
            have BFT := Lib.hid (BFH.out.take hN hS hl0)
            have SZT0 := SZ0.out.take (N := N) (S := S) (y := av (a, l, st)) hN hun
            have SZT := Lib.hid SZT0
            obtain ⟨mf, hmf⟩ : ∃ x, fr1.length + (nb N S (a, l, st)).length = x := ⟨_, rfl⟩
            have HMF := Lib.hid hmf
            have hmf2 : mf ≤ 40 * M + 1 ∧ (nx ++ if a < N then [av (a, l, st)] else []).length ≤ 40 * M + 1 := by
              unfold Sz at SZT0
              rw [List.length_append, hmf] at SZT0
              exact ⟨by omega, by simp only at SZT0; omega⟩
            have FX := FR1.out a l st (some ⟨gq, 0, none⟩) m1 d fr1 ws ⟨WFX.out, by omega, BES.out.size, HM1.out, by have := HMM.out; omega⟩ FPS
            unfold FRE at FX
            rw [hmf] at FX
            have HFX := Lib.hid FX
            have hgb := gb
            have hgq : gq < wr.heap.size := glt
            clear hmf FX SZT0
            go_upto_region 18 with (go_at_call 49; refine (HFX.out).mono ?_; rintro e wf ⟨qf, cf, rfl, hf1, hf2, hf3⟩; have f0 := hf2.cell s0 (fun e => by have e' : wr.heap.size = gq := Option.some.inj e; omega); have f1 := hf2.cell s1 (fun e => by have e' : wr.heap.size = gq := Option.some.inj e; omega); have f2 := hf2.cell s2 (fun e => by have e' : wr.heap.size = gq := Option.some.inj e; omega))
            have sez := SES.out.kept hf2 (own_two SES.out FPS.out)
            have noz := NOS.out.kept hf2 AP0.out
            have bez := BES.out.grown hf2 BES.out.size (fun k e => by have e' : gq = k := Option.some.inj e; omega)
            have apf := hf3.apart (u := .slice q2 m2 d2) AP0.out (fun k e => (NOS.out.lt k e).2)
            have SEZ := Lib.hid sez
            have NOZ := Lib.hid noz
            have BEZ := Lib.hid bez
            have APF := Lib.hid apf
            have HF1 := Lib.hid hf1
            have hfs := hf2.size
            have ltf : wr.heap.size < wf.heap.size := World.block_lt_of_cell? _ _ f0
            have LF := Lib.hid (show (fr1 ++ nb N S (a, l, st)).length = mf by rw [List.length_append, HMF.out])
            have HSL2 := Lib.hid (show (sn.set kx true).length = M by rw [List.length_set, HSL.out])
            have BFT2 := BFT.out
            rw [HKX.out] at BFT2
            have U2 := Lib.hid (unW_eq SE.out HSL.out)
            have HUN := Lib.hid hun
            have HMT := Lib.hid hmf2
            clear sez noz bez apf hf1 hf2 hf3 s0 s1 s2 hun hmf2
            by_cases han : a < N
            · have gan : decide ((a : Int) < N) = true := by simp; omega
              have gan' : decide (a < N) = true := by simp; omega
              rw [if_pos (show (a, l, st).1 < N from han)] at BFT2
              have SZ2 := SZT.out
              rw [if_pos (show (a, l, st).1 < N from han)] at SZ2
              have HMT2 := HMT.out
              rw [if_pos han, List.length_append, HNM.out] at HMT2
              have hm21 : m2 + 1 ≤ 40 * M + 1 := HMT2.2
              have hmf9 := HMT2.1
              have BF2 := Lib.hid BFT2
              have SZ3 := Lib.hid SZ2
              obtain ⟨j0, hinf, hz0, hz1, hz2⟩ := info_parts info69
              clear BFT2 SZ2 HMT2
              go_upto_region 19 with fail
              go_wp2_with (at_builtin; refine wpList_append_own_at _ rfl _ _ 71 rfl w.heap.size 69 j0 (.agg #[.int .i64 0, .int .i64 0, .int .i64 0]) 3 24 Try.underlying71 hinf hz0 hz1 hz2 rfl (by decide) _ _ _ rfl (show (wf.alloc (Obj.cells #[Value.int .i64 ((a : Int) + 1), Value.int .i64 (l : Int), Value.int .i64 (st : Int)] 69)).ownsRow w.heap.size 69 3 (.slice q2 m2 d2) m2 (fl3 nx) from by have h := NOZ.out.alloc (Obj.cells #[Value.int .i64 ((a : Int) + 1), Value.int .i64 (l : Int), Value.int .i64 (st : Int)] 69); rw [HNM.out] at h; exact h) ⟨wf.heap.size, 0, none⟩ 1 1 [.int .i64 ((a : Int) + 1), .int .i64 (l : Int), .int .i64 (st : Int)] rfl rfl (news3 wf ((a : Int) + 1) (l : Int) (st : Int) rfl) (one3 _ _ _) (by unfold maxLen; omega) (by omega) (by have := BEZ.out.size; simp; omega) ?_; intro v8 w8 hown8 hgrow _ hat; obtain ⟨qn, cn, rfl⟩ := own3_slice hown8; have NO8 := Lib.hid hown8; have SE8 := Lib.hid ((SEZ.out.alloc (Obj.cells #[Value.int .i64 ((a : Int) + 1), Value.int .i64 (l : Int), Value.int .i64 (st : Int)] 69)).kept hgrow (own_two (SEZ.out.alloc (Obj.cells #[Value.int .i64 ((a : Int) + 1), Value.int .i64 (l : Int), Value.int .i64 (st : Int)] 69)) (NOZ.out.alloc (Obj.cells #[Value.int .i64 ((a : Int) + 1), Value.int .i64 (l : Int), Value.int .i64 (st : Int)] 69)))); have FO8 := Lib.hid ((HF1.out.alloc (Obj.cells #[Value.int .i64 ((a : Int) + 1), Value.int .i64 (l : Int), Value.int .i64 (st : Int)] 69)).kept hgrow (apart_symm APF.out)); have AP8 := Lib.hid (Nw.apart' (Nw.of hat (Nat.le_refl _)) APF.out (fun k e => by have h1 := (HF1.out.lt k e).2; simp; omega)); have BE8 := Lib.hid ((BEZ.out.alloc BEZ.out.size (Obj.cells #[Value.int .i64 ((a : Int) + 1), Value.int .i64 (l : Int), Value.int .i64 (st : Int)] 69)).grown hgrow (by have := BEZ.out.size; simp; omega) (fun k e => (NOZ.out.lt k e).1)); clear hown8 hgrow hat)
              go_roundw
              case rel => exact ⟨mf, cf, m2 + 1, cn, qf, qn, sn.set kx true, fr1 ++ nb N S (a, l, st), nx ++ [av (a, l, st)], rfl, rfl, LF.out, by rw [List.length_append, HNM.out]; rfl, hmf9, hm21, Lib.hid ⟨BF2.out, SZ3.out, SE8.out, by rw [LF.out]; exact FO8.out, by rw [List.length_append, HNM.out, fl3_app]; exact NO8.out, AP8.out, BE8.out⟩⟩
              case measure => simp [lenOf]; rw [unW_eq SE8.out HSL2.out, U2.out]; have := HUN.out; have := HMM.out; have := nb_len N S (a, l, st); have := HMF.out; have := HM1.out; omega
            · have gan : decide ((a : Int) < N) = false := by simp; omega
              have gan' : decide (a < N) = false := by simp; omega
              rw [if_neg (show ¬ (a, l, st).1 < N from han), List.append_nil] at BFT2
              have SZ2 := SZT.out
              rw [if_neg (show ¬ (a, l, st).1 < N from han), List.append_nil] at SZ2
              have hmf9 := HMT.out.1
              have BF2 := Lib.hid BFT2
              have SZ3 := Lib.hid SZ2
              clear BFT2 SZ2 han
              go_wp2_with fail
              go_roundw
              case rel => exact ⟨mf, cf, m2, d2, qf, q2, sn.set kx true, fr1 ++ nb N S (a, l, st), nx, rfl, rfl, LF.out, HNM.out, hmf9, hm2, Lib.hid ⟨BF2.out, SZ3.out, SEZ.out, by rw [LF.out]; exact HF1.out, by rw [HNM.out]; have h := NOZ.out; rw [HNM.out] at h; exact h, APF.out, BEZ.out⟩⟩
              case measure => simp [lenOf]; rw [unW_eq SEZ.out HSL2.out, U2.out]; have := HUN.out; have := HMM.out; have := nb_len N S (a, l, st); have := HMF.out; have := HM1.out; omega
        · have u2 := unW_eq SE.out HSL.out
          go_wp2_with (go_at_call 48; refine (NX.out _).mono ?_; rintro e wn ⟨rfl, hb⟩; have KN := Lib.hid hb; replace y0 := Rg.keep hb ylt y0; replace y1 := Rg.keep hb ylt y1; replace y2 := Rg.keep hb ylt y2; have hgl2 := Nat.lt_trans hgl ylt; replace hsc := Rg.keep hb hgl2 hsc; replace hsf := Rg.keepF hb hgl2 hsf; replace ylt := Nat.lt_of_lt_of_le ylt hb.size; clear hb hgl2)
          have K9 := KB.out.trans (KN.out.mono KB.out.size)
          have u1 := unW_eq (own_low SE.out K9) HSL.out
          go_roundw
          case rel => exact ⟨m1, d, m2, d2, some ⟨gq, 0, none⟩, q2, sn, fr1, nx, rfl, rfl, HM1.out, HNM.out, by have := HMM.out; omega, hm2, Lib.hid ⟨BFH.out.skip (by unfold Sn; rw [HKX.out]; exact HFL.out), by have h := SZ0.out; unfold Sz at h ⊢; rw [List.length_append] at h; simp at h; omega, own_low SE.out K9, by rw [HM1.out]; exact own_low FP.out K9, own_low NO.out K9, AP0.out, BE.out.trans (K9.mono BE.out.size)⟩⟩
          case measure => simp [lenOf]; rw [u1, u2]; have := HMM.out; omega
      · obtain rfl : m = 0 := by omega
        have hfr : fr = [] := List.eq_nil_of_length_eq_zero hfm
        subst hfr
        have BFN := bf.next hN hS
        have hc1 : ((c + 1 : Nat) : Int) ≤ V := by rw [← HV.out]; exact BFN.hi hN hS
        have hc2 : (c : Int) + 1 ≤ V := by omega
        have BN : Hid (BI N S (c + 1) g M w wr sn nx [] (.slice q2 m2 d2) (.slice none 0 0)) := Lib.hid ⟨BFN, by unfold Sz at sz ⊢; simp at sz ⊢; omega, se, no, World.ownsRow_nil _ _ _ _, .inl rfl, be⟩
        have HNM := Lib.hid hnm
        clear BFN bf sz se fo no ap be HJ hfm hnm hz
        go_wp2_with fail
        go_roundw
        case rel => exact ⟨c + 1, m2, d2, q2, sn, nx, rfl, by simp, HNM.out, hm2, hc1, BN⟩
        case measure => simp [intOf]; omega
theorem bfc (n s : Int) (w : World) : Calls Try.prog 24 #[.int .i64 n, .int .i64 s] w fun e w' => e = NE (bfV n s) (bfE n s) ∧ Below w.heap.size w w' := by
  unfold bfV bfE
  by_cases h : 0 ≤ n ∧ n ≤ 64 ∧ 0 ≤ s ∧ s ≤ 64
  · rw [inr_ok h, if_pos rfl]
    by_cases h12 : 12 < n
    · rw [if_pos h12, if_neg (fun g => by omega)]
      exact bf_big n s w h h12
    · rw [if_neg h12, if_pos ⟨rfl, by omega⟩]
      obtain ⟨N, rfl⟩ : ∃ N : Nat, n = (N : Int) := ⟨n.toNat, by omega⟩
      obtain ⟨S, rfl⟩ : ∃ S : Nat, s = (S : Int) := ⟨s.toNat, by omega⟩
      exact bf_go N S w (by omega) (by omega)
  · rw [inr_no h, if_neg (show ¬ (false = true ∧ n ≤ 12) from fun g => by cases g.1), if_neg (by decide)]
    exact bf_no n s w h
end Go.Proofs.Ytndmpoomdoojpaa.Ck.Bf
