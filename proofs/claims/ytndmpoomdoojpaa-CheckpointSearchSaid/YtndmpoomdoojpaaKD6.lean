/- Search of the reference. -/
import Derived.Test.YtndmpoomdoojpaaRows
import Derived.WalkKit
import Derived.ProofKit
import Derived.OpenShut
import Derived.WalkLawsBesides
import Derived.WalkSpells
import Derived.Outline
import Derived.Handy
import Derived.IntWalk
import Derived.Deep.QuietTactic
import Derived.BigQuiet
import Derived.Lib.Hide
import Derived.Deep.CutRange
import Derived.Test.YtndmpoomdoojpaaKD5
namespace Go.Proofs.Ytndmpoomdoojpaa.Ck.Sr
open Go.ChangeShapes Go.WideShapes Go.ChangeAt Go.RowKit Go.Proofs.Ytndmpoomdoojpaa.Ck Go.Proofs.Ytndmpoomdoojpaa.Ck.Bf
set_option linter.unusedVariables false


theorem co10_ok : ((List.range 6).all fun (n : Nat) => (List.range 3).all fun (s : Nat) => decide (co n s ≤ 10)) = true := by decide +kernel
theorem co10 {N S : Nat} (hN : N ≤ 5) (hS : S ≤ 2) : co N S ≤ 10 := by
  have h := List.all_eq_true.1 (List.all_eq_true.1 co10_ok N (List.mem_range.2 (by omega))) S (List.mem_range.2 (by omega))
  exact of_decide_eq_true h
theorem Nx.start (N : Nat) (l : List Sd) : Nx N l 0 [] := ⟨List.nodup_nil, fun x h => absurd h (by simp), fun j y h => absurd h (Nat.not_lt_zero _)⟩
theorem Nx.add {N i : Nat} {l nx : List Sd} {x : Sd} (h : Nx N l i nx) (hx : l[i]? = some x) (ha : x.1 < N) : Nx N l (i + 1) (adS nx (avS x)) := by
  refine ⟨adS_nd h.nd, fun y hy => ?_, fun j y hj hy hn => ?_⟩
  · rcases adS_mem hy with g | rfl
    · exact h.sd y g
    · exact ⟨x, List.mem_of_getElem? hx, ha, rfl⟩
  · by_cases e : j = i
    · subst e
      rw [hx] at hy
      cases hy
      exact adS_me
    · exact adS_up (h.cm j y (by omega) hy hn)
theorem Nx.skip {N i : Nat} {l nx : List Sd} {x : Sd} (h : Nx N l i nx) (hx : l[i]? = some x) (ha : ¬ x.1 < N) : Nx N l (i + 1) nx :=
  ⟨h.nd, h.sd, fun j y hj hy hn => by
    by_cases e : j = i
    · subst e
      rw [hx] at hy
      cases hy
      exact absurd hn ha
    · exact h.cm j y (by omega) hy hn⟩
theorem Nx.wf {N S i : Nat} {l nx : List Sd} (h : Nx N l i nx) (hl : ∀ x ∈ l, WfS N S x) : ∀ x ∈ nx, WfS N S x := fun x hx => by
  obtain ⟨y, h1, h2, rfl⟩ := h.sd x hx
  exact (hl y h1).adv h2
/-- What holds while a level is gone through. -/
structure SI (N S : Nat) (w : World) (L : List (Sd × Value)) (lv : Value) (i : Nat) (NX : List (Sd × Value)) (nv : Value) (wr : World) : Prop where
  nz : ∀ j x, j < i → (L.map (·.1))[j]? = some x → x.2.1 ≠ 0
  nx : Nx N (L.map (·.1)) i (NX.map (·.1))
  rl : RowS S wr w.heap.size lv L
  rn : RowS S wr w.heap.size nv NX
  ap : nv.ownBlock = none ∨ nv.ownBlock ≠ lv.ownBlock
  be : Below w.heap.size w wr
theorem SI.low {N S : Nat} {w : World} {L : List (Sd × Value)} {lv : Value} {i : Nat} {NX : List (Sd × Value)} {nv : Value} {wr wz : World} (h : SI N S w L lv i NX nv wr) (hb : Below wr.heap.size wr wz) : SI N S w L lv i NX nv wz := ⟨h.nz, h.nx, h.rl.low hb, h.rn.low hb, h.ap, h.be.trans (hb.mono h.be.size)⟩
theorem SI.add {N S : Nat} {w : World} {L : List (Sd × Value)} {lv : Value} {i : Nat} {NX : List (Sd × Value)} {nv : Value} {wr w8 : World} {x : Sd} {u v8 : Value} (h : SI N S w L lv i NX nv wr) (hx : (L.map (·.1))[i]? = some x) (hz : x.2.1 ≠ 0) (ha : x.1 < N) (hr : RowS S w8 w.heap.size v8 (adV NX (avS x) u)) (hg : wr.grownBy w8 nv.ownBlock) (hn : Nw wr.heap.size nv v8) : SI N S w L lv (i + 1) (adV NX (avS x) u) v8 w8 := by
  refine ⟨fun j y hj hy => ?_, by rw [adV_map]; exact h.nx.add hx ha, ⟨h.rl.1.kept hg (apart_symm h.ap), fun p hp => (h.rl.2 p hp).kept hg (own_two3 (h.rl.2 p hp) h.rn.1)⟩, hr, hn.apart' h.ap (fun k e => (h.rl.1.lt k e).2), h.be.grown hg h.be.size (fun k e => (h.rn.1.lt k e).1)⟩
  by_cases e : j = i
  · subst e
    rw [hx] at hy
    cases hy
    exact hz
  · exact h.nz j y (by omega) hy
theorem SI.skip {N S : Nat} {w : World} {L : List (Sd × Value)} {lv : Value} {i : Nat} {NX : List (Sd × Value)} {nv : Value} {wr : World} {x : Sd} (h : SI N S w L lv i NX nv wr) (hx : (L.map (·.1))[i]? = some x) (hz : x.2.1 ≠ 0) (ha : ¬ x.1 < N) : SI N S w L lv (i + 1) NX nv wr := by
  refine ⟨fun j y hj hy => ?_, h.nx.skip hx ha, h.rl, h.rn, h.ap, h.be⟩
  by_cases e : j = i
  · subst e
    rw [hx] at hy
    cases hy
    exact hz
  · exact h.nz j y (by omega) hy

set_option maxRecDepth 100000 in
set_option maxHeartbeats 4000000 in
theorem search1 (N S : Nat) (w : World) (hN : N ≤ 5) (hS : S ≤ 2) : Calls Try.prog 25 #[.int .i64 (N : Int), .int .i64 (S : Int)] w fun e w' => e = .returned (.int .i64 (co N S)) ∧ Below w.heap.size w w' := by
  obtain ⟨V, hV⟩ : ∃ V, co (N : Int) (S : Int) = V := ⟨_, rfl⟩
  have HV := Lib.hid hV
  have hV9 : V ≤ 10 := by rw [← hV]; exact co10 hN hS
  have hV0 : ((0 : Nat) : Int) ≤ V := by rw [← hV]; exact (co_bd (by omega) (by omega) (by omega) (by omega)).1
  rw [hV]
  clear hV
  have ST := Lib.hid fun (u : World) => rstart (N : Int) S u (by omega)
  have FR := Lib.hid fun (L : List (Sd × Value)) (q : Option Addr) (m c : Nat) (y : World) (hb : w.heap.size ≤ y.heap.size) (hm : L.length = m) (hR : RowS S y w.heap.size (.slice q m c) L) (hnd : (L.map (·.1)).Nodup) (hwf : ∀ x ∈ L.map (·.1), WfS N S x) => free2 N S w.heap.size L q m c y hN hS hb hm (Lib.hid hR) hnd hwf
  have AD1 := Lib.hid fun (L : List (Sd × Value)) (q : Option Addr) (m c : Nat) (y : World) (a l : Nat) (s : List Int) (qv : Option Addr) (cv : Nat) (hR : RowS S y w.heap.size (.slice q m c) L) (hm : L.length = m) (h9 : L.length ≤ 1764) (hb : w.heap.size ≤ y.heap.size) (hU : y.ownsRow w.heap.size 3 1 (.slice qv S cv) S (s.map (Value.int .i64))) => add1 S w.heap.size L q m c a l s (.slice qv S cv) y (by omega) hb hm (by omega) (Lib.hid hR) (Lib.hid hU)
  unfold SW at ST
  unfold rv at ST AD1
  go_enter Try.func25, Try.ntmps25
  go_upto_region 2 with (first | (go_at_call 51; refine (ST.out _).mono ?_; rintro e wa ⟨v, rfl, hb, ho⟩; obtain ⟨qv, cv, rfl, -⟩ := own_sl ho; have BA := Lib.hid hb; have OA := Lib.hid ho; clear hb ho) | (go_at_call 50; refine (FR.out [(st0 N S, .slice qv S cv)] _ _ _ _ (by have := BA.out.size; simp; omega) rfl ⟨World.ownsRow_lit wa #[Value.int .i64 0, Value.int .i64 (N : Int), Value.slice qv S cv] 1 BA.out.size (by decide) rfl, fun p hp => by rw [List.mem_singleton] at hp; subst hp; exact own_low OA.out ((Below.refl _ _).alloc (Nat.le_refl _) _)⟩ (by simp) (fun x hx => by simp only [List.map_cons, List.map_nil, List.mem_singleton] at hx; subst hx; exact (start_S (by omega) (by omega)).1)).mono ?_; rintro e w1 ⟨q, m, c, L, rfl, hm, hm4, hro, hfr, hwf, hgr, hnw⟩; have HML := Lib.hid hm; have HRO := Lib.hid hro; have HLV := Lib.hid (Lv.start hfr); have HWF := Lib.hid hwf; have HBE : Hid (Below w.heap.size w w1) := Lib.hid ((BA.out.alloc BA.out.size _).grown hgr (by have := BA.out.size; simp; omega) (fun k e => by have e' : wa.heap.size = k := Option.some.inj e; have := BA.out.size; omega)); clear hm hro hfr hwf hgr hnw BA OA))
  go_upto_region 3 with fail
  go_loopw [5, 6] (fun lv cv wr => ∃ (c m d : Nat) (q : Option Addr) (L : List (Sd × Value)), lv = .slice q m d ∧ cv = .int .i64 (c : Int) ∧ m ≤ 1764 ∧ (c : Int) ≤ V ∧ Hid (L.length = m) ∧ Hid (Lv N S c (L.map (·.1))) ∧ Hid (∀ x ∈ L.map (·.1), WfS N S x) ∧ Hid (RowS S wr w.heap.size (.slice q m d) L) ∧ Hid (Below w.heap.size w wr)) (fun _ cv _ => (V + 1 - intOf cv).toNat)
  case atStart => exact ⟨0, m, c, q, L, rfl, rfl, hm4, hV0, HML, HLV, HWF, HRO, HBE⟩
  case round =>
    clear HML HLV HWF HRO HBE hm4 hV0
    obtain ⟨c, m, d, q, L, rfl, rfl, hm4, hcV, HML, HLV, HWF, HRO, HBE⟩ := hrel
    have gc : decide ((c : Int) < 100) = true := by simp; omega
    have gc' : decide (c < 100) = true := by simp; omega
    have HSI0 : Hid (SI N S w L (.slice q m d) 0 [] (.slice none 0 0) wr) := Lib.hid ⟨fun j x h => absurd h (Nat.not_lt_zero _), Nx.start _ _, HRO.out, ⟨World.ownsRow_nil _ _ _ _, fun p hp => absurd hp (by simp)⟩, .inl rfl, HBE.out⟩
    go_upto_region 7 with fail
    go_loopw [7, 8] (fun nv iv wr => ∃ (i m2 d2 : Nat) (q2 : Option Addr) (NX : List (Sd × Value)), nv = .slice q2 m2 d2 ∧ iv = .int .i64 (i : Int) ∧ i ≤ m ∧ m2 ≤ 1764 ∧ Hid (NX.length = m2) ∧ Hid (SI N S w L (.slice q m d) i NX (.slice q2 m2 d2) wr)) (fun _ iv _ => m - (intOf iv).toNat)
    case atStart => exact ⟨0, 0, 0, none, [], rfl, rfl, Nat.zero_le _, Nat.zero_le _, Lib.hid rfl, HSI0⟩
    case round =>
      clear HSI0 HRO HBE
      obtain ⟨i, m2, d2, q2, NX, rfl, rfl, him0, hm24, HNL, HSI⟩ := hrel
      by_cases him : i < m
      · have i2 : (i : Int) < m := by omega
        have i0 : (0 : Int) ≤ i := by omega
        obtain ⟨⟨⟨a, l, s⟩, u6⟩, hp⟩ : ∃ p, L[i]? = some p := ⟨_, List.getElem?_eq_getElem (by rw [HML.out]; exact him)⟩
        have hO1 := HSI.out.rl.1
        rw [HML.out] at hO1
        have hu6 := HSI.out.rl.2 _ (List.mem_of_getElem? hp)
        dsimp only at hu6
        obtain ⟨qu, cu, rfl, hqu⟩ := own_sl hu6
        obtain ⟨q9, c9, hv9, hg9⟩ := ownS_slice hO1
        cases hv9
        obtain ⟨g, rfl⟩ := hg9 (by omega)
        obtain ⟨f0, f1, f2⟩ := flS_get hp
        dsimp only at f0 f1 f2
        have y0 := (hO1.cellAt (i * 3) (by omega)).trans f0
        have y1 := (hO1.cellAt (i * 3 + 1) (by omega)).trans f1
        have y2 := (hO1.cellAt (i * 3 + 2) (by omega)).trans f2
        have hpm : (L.map (·.1))[i]? = some (a, l, s) := by rw [List.getElem?_map, hp]; rfl
        have hwx := HWF.out (a, l, s) (List.mem_of_getElem? hpm)
        have ha : a ≤ N := hwx.1
        have hl : l ≤ N := hwx.2.1
        have hsl : s.length = S := hwx.2.2.1
        have DA := fun (y : World) h1 h2 => do_adv N S w.heap.size a l s (.slice qu S cu) y h2 hN hS ha hl hsl h1
        unfold rv at DA
        have HPM := Lib.hid hpm
        have HU6 := Lib.hid hu6
        clear hu6 hqu hg9 f0 f1 f2 hp hO1 hpm
        have hwr : IntKind.i64.wrap ((a : Int) + 1) = (a : Int) + 1 := by rw [IntKind.wrap_i64]; omega
        rw [← hwr] at DA
        have HWR := Lib.hid hwr
        clear hwr
        by_cases hl0 : l = 0
        · have g0 : ((l : Int) == 0) = true := by simp; omega
          have hcv : V = (c : Int) := by
            have h := HLV.out.found (by omega) (by omega) (List.mem_of_getElem? HPM.out) hl0
            rw [HV.out] at h
            omega
          have HBF := Lib.hid HSI.out.be
          go_wp2_with fail
          go_ret
          exact ⟨by rw [hcv]; rfl, HBF.out⟩
        · have g0 : ((l : Int) == 0) = false := by rw [beq_eq_false_iff_ne]; omega
          by_cases han : a < N
          · rw [decide_eq_true han] at DA
            have CR : Hid (∀ y, Below wr.heap.size wr y → Calls Try.prog 52 #[.agg #[.int .i64 (a : Int), .int .i64 (l : Int), .slice qu S cu], .int .i64 (N : Int), .agg #[.int .i64 1, .int .i64 (IntKind.i64.wrap ((a : Int) + 1)), .int .i64 0]] y fun e y' => Below y.heap.size y y' ∧ ∃ qv cv, e = .returned (.tuple #[.agg #[.int .i64 ((a : Int) + 1), .int .i64 (l : Int), .slice qv S cv], .bool true]) ∧ y'.ownsRow w.heap.size 3 1 (.slice qv S cv) S (s.map (Value.int .i64))) := Lib.hid fun y hy => (DA y (Lib.hid (own_low HU6.out hy)) (Nat.le_trans HSI.out.be.size hy.size)).mono fun _ _ h => by rw [HWR.out] at h; exact h.yes
            clear DA
            go_upto_region 11 with fail
            go_cut [9, 10] from 34 to 49 (fun p9 p10 wx => ∃ (b8 : Nat) (qv : Option Addr) (cv : Nat), p9 = .pointer (some ⟨b8, 0, none⟩) ∧ p10 = .bool true ∧ Hid (Below wr.heap.size wr wx) ∧ Hid (B3 wx b8 (.int .i64 ((a : Int) + 1)) (.int .i64 (l : Int)) (.slice qv S cv)) ∧ Hid (wx.ownsRow w.heap.size 3 1 (.slice qv S cv) S (s.map (Value.int .i64))))
            case first =>
              have HS : Hid (∀ u u' : World, (u.cell? ⟨g, i * 3, none⟩ = some (.int .i64 (a : Int)) ∧ u.cell? ⟨g, i * 3 + 1, none⟩ = some (.int .i64 (l : Int)) ∧ u.cell? ⟨g, i * 3 + 2, none⟩ = some (.slice qu S cu) ∧ Below wr.heap.size wr u) → Below u.heap.size u u' → (u'.cell? ⟨g, i * 3, none⟩ = some (.int .i64 (a : Int)) ∧ u'.cell? ⟨g, i * 3 + 1, none⟩ = some (.int .i64 (l : Int)) ∧ u'.cell? ⟨g, i * 3 + 2, none⟩ = some (.slice qu S cu) ∧ Below wr.heap.size wr u')) := Lib.hid (fun u u' h hb => ⟨Rg.keep hb (World.block_lt_of_cell? _ _ h.1) h.1, Rg.keep hb (World.block_lt_of_cell? _ _ h.2.1) h.2.1, Rg.keep hb (World.block_lt_of_cell? _ _ h.2.2.1) h.2.2.1, h.2.2.2.trans (hb.mono h.2.2.2.size)⟩)
              refine Rk.begin (S := fun wS => wS.cell? ⟨g, i * 3, none⟩ = some (.int .i64 (a : Int)) ∧ wS.cell? ⟨g, i * 3 + 1, none⟩ = some (.int .i64 (l : Int)) ∧ wS.cell? ⟨g, i * 3 + 2, none⟩ = some (.slice qu S cu) ∧ Below wr.heap.size wr wS) 17 (by kernel_rfl) ⟨y0, y1, y2, Below.drew (Below.refl _ _)⟩ (fun hHeld => ?_)
              refine Rk.takeP (i := 0) (v := ?_) rfl (by kernel_rfl) (by kernel_rfl) (by kernel_rfl) (by kernel_rfl) (fun _ _ _ h => h) (Or.inl ⟨by kernel_rfl, ?_⟩) (by assumption) ?_
              rotate_left
              · ((intro w hSw; go_simp) <;> with_reducible rfl)
              try simp only [Act.put, List.setIfInBounds_toArray, List.set_cons_zero, List.set_cons_succ]
              refine Rk.takeP (i := 1) (v := ?_) rfl (by kernel_rfl) (by kernel_rfl) (by kernel_rfl) (by kernel_rfl) (fun _ _ _ h => h) (Or.inl ⟨by kernel_rfl, ?_⟩) (by assumption) ?_
              rotate_left
              · ((intro w hSw; go_simp) <;> with_reducible rfl)
              try simp only [Act.put, List.setIfInBounds_toArray, List.set_cons_zero, List.set_cons_succ]
              refine Rk.takeP (i := 2) (v := ?_) rfl (by kernel_rfl) (by kernel_rfl) (by kernel_rfl) (by kernel_rfl) (fun _ _ _ h => h) (Or.inl ⟨by kernel_rfl, ?_⟩) (by assumption) ?_
              rotate_left
              · ((intro w hSw; go_simp) <;> with_reducible rfl)
              try simp only [Act.put, List.setIfInBounds_toArray, List.set_cons_zero, List.set_cons_succ]
              refine Rk.take [17] (i := 3) (v := ?_) rfl (by kernel_rfl) (by kernel_rfl) (by kernel_rfl) (by kernel_rfl) (by kernel_rfl) (fun _ _ _ h => h) (Or.inl ⟨by kernel_rfl, ?_⟩) (by assumption) ?_
              rotate_left
              · ((intro w hSw; (try dsimp only at hSw); go_simp) <;> with_reducible rfl)
              try simp only [Act.put, List.setIfInBounds_toArray, List.set_cons_zero, List.set_cons_succ]
              refine Rk.takeP (i := 4) (v := ?_) rfl (by kernel_rfl) (by kernel_rfl) (by kernel_rfl) (by kernel_rfl) (fun _ _ _ h => h) (Or.inl ⟨by kernel_rfl, ?_⟩) (by assumption) ?_
              rotate_left
              · ((intro w hSw; go_simp) <;> with_reducible rfl)
              try simp only [Act.put, List.setIfInBounds_toArray, List.set_cons_zero, List.set_cons_succ]
              refine Rk.takeP (i := 5) (v := ?_) rfl (by kernel_rfl) (by kernel_rfl) (by kernel_rfl) (by kernel_rfl) (fun _ _ _ h => h) (Or.inl ⟨by kernel_rfl, ?_⟩) (by assumption) ?_
              rotate_left
              · ((intro w hSw; go_simp) <;> with_reducible rfl)
              try simp only [Act.put, List.setIfInBounds_toArray, List.set_cons_zero, List.set_cons_succ]
              refine Rk.takeP (i := 6) (v := ?_) rfl (by kernel_rfl) (by kernel_rfl) (by kernel_rfl) (by kernel_rfl) (fun _ _ _ h => h) (Or.inl ⟨by kernel_rfl, ?_⟩) (by assumption) ?_
              rotate_left
              · ((intro w hSw; go_simp) <;> with_reducible rfl)
              try simp only [Act.put, List.setIfInBounds_toArray, List.set_cons_zero, List.set_cons_succ]
              refine Rk.takeP (i := 7) (v := ?_) rfl (by kernel_rfl) (by kernel_rfl) (by kernel_rfl) (by kernel_rfl) (fun _ _ _ h => h) (Or.inl ⟨by kernel_rfl, ?_⟩) (by assumption) ?_
              rotate_left
              · ((intro w hSw; go_simp) <;> with_reducible rfl)
              try simp only [Act.put, List.setIfInBounds_toArray, List.set_cons_zero, List.set_cons_succ]
              refine Rk.takeP (i := 8) (v := ?_) rfl (by kernel_rfl) (by kernel_rfl) (by kernel_rfl) (by kernel_rfl) (fun _ _ _ h => h) (Or.inl ⟨by kernel_rfl, ?_⟩) (by assumption) ?_
              rotate_left
              · ((intro w hSw; go_simp) <;> with_reducible rfl)
              try simp only [Act.put, List.setIfInBounds_toArray, List.set_cons_zero, List.set_cons_succ]
              refine Rk.take [17] (i := 9) (v := ?_) rfl (by kernel_rfl) (by kernel_rfl) (by kernel_rfl) (by kernel_rfl) (by kernel_rfl) (fun _ _ _ h => h) (Or.inl ⟨by kernel_rfl, ?_⟩) (by assumption) ?_
              rotate_left
              · ((intro w hSw; (try dsimp only at hSw); go_simp) <;> with_reducible rfl)
              try simp only [Act.put, List.setIfInBounds_toArray, List.set_cons_zero, List.set_cons_succ]
              refine Rk.takeP (i := 10) (v := ?_) rfl (by kernel_rfl) (by kernel_rfl) (by kernel_rfl) (by kernel_rfl) (fun _ _ _ h => h) (Or.inl ⟨by kernel_rfl, ?_⟩) (by assumption) ?_
              rotate_left
              · ((intro w hSw; go_simp) <;> with_reducible rfl)
              try simp only [Act.put, List.setIfInBounds_toArray, List.set_cons_zero, List.set_cons_succ]
              refine Rk.takeP (i := 11) (v := ?_) rfl (by kernel_rfl) (by kernel_rfl) (by kernel_rfl) (by kernel_rfl) (fun _ _ _ h => h) (Or.inl ⟨by kernel_rfl, ?_⟩) (by assumption) ?_
              rotate_left
              · ((intro w hSw; go_simp) <;> with_reducible rfl)
              try simp only [Act.put, List.setIfInBounds_toArray, List.set_cons_zero, List.set_cons_succ]
              refine Rk.two (i := 12) (j := 16) (by kernel_rfl) rfl rfl (fun KK hK => ?_) (fun KK hK => ?_)
              · rw [if_pos (by kernel_rfl)]
                go_simp
                ((with_reducible refine (CR.out _ (hHeld.2.2.2)).mono ?_); rintro e u7 ⟨hb, qv, cv, rfl, hov⟩)
                have hNew := HS.out _ _ hHeld hb
                have hs7 := (hNew.2.2.2).size
                first | (refine hK.out _ _ (fun _ => hNew) (fun _ => ?_)) | (refine hK.out _ _ hNew (fun _ => ?_)) | (go_wp2_with fail; refine hK.out _ _ hNew (fun _ => ?_))
                replace hHeld := hNew
                clear hNew hb
                clear hK KK
                refine Rk.takeP (i := 13) (v := ?_) rfl (by kernel_rfl) (by kernel_rfl) (by kernel_rfl) (by kernel_rfl) (fun _ _ _ h => h) (Or.inl ⟨by kernel_rfl, ?_⟩) (by assumption) ?_
                rotate_left
                · ((intro w hSw; go_simp) <;> with_reducible rfl)
                try simp only [Act.put, List.setIfInBounds_toArray, List.set_cons_zero, List.set_cons_succ]
                refine Rk.takeP (i := 14) (v := ?_) rfl (by kernel_rfl) (by kernel_rfl) (by kernel_rfl) (by kernel_rfl) (fun _ _ _ h => h) (Or.inl ⟨by kernel_rfl, ?_⟩) (by assumption) ?_
                rotate_left
                · ((intro w hSw; go_simp) <;> with_reducible rfl)
                try simp only [Act.put, List.setIfInBounds_toArray, List.set_cons_zero, List.set_cons_succ]
                refine Rk.takeP (i := 15) (v := ?_) rfl (by kernel_rfl) (by kernel_rfl) (by kernel_rfl) (by kernel_rfl) (fun _ _ _ h => h) (Or.inl ⟨by kernel_rfl, ?_⟩) (by assumption) ?_
                rotate_left
                · ((intro w hSw; go_simp) <;> with_reducible rfl)
                try simp only [Act.put, List.setIfInBounds_toArray, List.set_cons_zero, List.set_cons_succ]
                refine Rk.one (i := 16) (by kernel_rfl) rfl (fun KK hK => ?_)
                rw [if_pos (by kernel_rfl)]
                go_simp
                have hNew := HS.out _ _ hHeld ((Below.refl _ _).alloc (Nat.le_refl _) (Obj.cells #[Value.int .i64 0, Value.int .i64 0, Value.slice none 0 0] 76))
                have MB : B3 (u7.alloc (Obj.cells #[Value.int .i64 0, Value.int .i64 0, Value.slice none 0 0] 76)) u7.heap.size (.int .i64 0) (.int .i64 0) (.slice none 0 0) := B3.new
                replace hov := own_low hov ((Below.refl _ _).alloc (Nat.le_refl _) (Obj.cells #[Value.int .i64 0, Value.int .i64 0, Value.slice none 0 0] 76))
                refine hK.out _ _ hNew (fun _ => ?_)
                replace hHeld := hNew
                clear hNew
                clear hK KK
                refine Rk.tail [17, 18] [_, _] (by kernel_rfl) (by kernel_rfl) rfl (by decide) ?_
                obtain ⟨-, -, -, K8⟩ := hHeld
                have hnb : wr.heap.size ≤ u7.heap.size := by first | exact Nat.le_refl _ | exact hs7
                generalize hgz : (u7.alloc (Obj.cells #[Value.int .i64 0, Value.int .i64 0, Value.slice none 0 0] 76)) = gz at *
                have m0 := MB.c0
                have m1 := MB.c1
                have m2 := MB.c2
                have n0 := MB.fz 0
                have n1 := MB.fz 1
                have n2 := MB.fz 2
                have lm := MB.lt
                go_wp2_with fail
                go_meet
                exact ⟨u7.heap.size, qv, cv, rfl, rfl, Lib.hid (((K8.setCell (p := ⟨u7.heap.size, 0, none⟩) hnb _).setCell (p := ⟨u7.heap.size, 1, none⟩) hnb _).setCell (p := ⟨u7.heap.size, 2, none⟩) hnb _), Lib.hid (b3_set MB _ _ _), Lib.hid (own_b3s hov MB)⟩
              · rw [if_pos (by kernel_rfl)]
                go_simp
                have hNew := HS.out _ _ hHeld ((Below.refl _ _).alloc (Nat.le_refl _) (Obj.cells #[Value.int .i64 0, Value.int .i64 0, Value.slice none 0 0] 76))
                have MB : B3 ((wr.alloc (Obj.cells #[Value.int .i64 0, Value.int .i64 0, Value.slice none 0 0] 76)).drew) wr.heap.size (.int .i64 0) (.int .i64 0) (.slice none 0 0) := B3.new (w := wr)
                refine hK.out _ _ hNew (fun _ => ?_)
                replace hHeld := hNew
                clear hNew
                replace hHeld : (wr.alloc (Obj.cells #[Value.int .i64 0, Value.int .i64 0, Value.slice none 0 0] 76)).drew.cell? ⟨g, i * 3, none⟩ = some (.int .i64 (a : Int)) ∧ (wr.alloc (Obj.cells #[Value.int .i64 0, Value.int .i64 0, Value.slice none 0 0] 76)).drew.cell? ⟨g, i * 3 + 1, none⟩ = some (.int .i64 (l : Int)) ∧ (wr.alloc (Obj.cells #[Value.int .i64 0, Value.int .i64 0, Value.slice none 0 0] 76)).drew.cell? ⟨g, i * 3 + 2, none⟩ = some (.slice qu S cu) ∧ Below wr.heap.size wr (wr.alloc (Obj.cells #[Value.int .i64 0, Value.int .i64 0, Value.slice none 0 0] 76)).drew := hHeld
                clear hK KK
                refine Rk.one (i := 12) (by kernel_rfl) rfl (fun KK hK => ?_)
                rw [if_pos (by kernel_rfl)]
                go_simp
                ((with_reducible refine (CR.out _ (hHeld.2.2.2)).mono ?_); rintro e u7 ⟨hb, qv, cv, rfl, hov⟩)
                have hNew := HS.out _ _ hHeld hb
                have hs7 := (hNew.2.2.2).size
                replace MB := MB.below hb
                first | (refine hK.out _ _ (fun _ => hNew) (fun _ => ?_)) | (refine hK.out _ _ hNew (fun _ => ?_)) | (go_wp2_with fail; refine hK.out _ _ hNew (fun _ => ?_))
                replace hHeld := hNew
                clear hNew hb
                clear hK KK
                refine Rk.takeP (i := 13) (v := ?_) rfl (by kernel_rfl) (by kernel_rfl) (by kernel_rfl) (by kernel_rfl) (fun _ _ _ h => h) (Or.inl ⟨by kernel_rfl, ?_⟩) (by assumption) ?_
                rotate_left
                · ((intro w hSw; go_simp) <;> with_reducible rfl)
                try simp only [Act.put, List.setIfInBounds_toArray, List.set_cons_zero, List.set_cons_succ]
                refine Rk.takeP (i := 14) (v := ?_) rfl (by kernel_rfl) (by kernel_rfl) (by kernel_rfl) (by kernel_rfl) (fun _ _ _ h => h) (Or.inl ⟨by kernel_rfl, ?_⟩) (by assumption) ?_
                rotate_left
                · ((intro w hSw; go_simp) <;> with_reducible rfl)
                try simp only [Act.put, List.setIfInBounds_toArray, List.set_cons_zero, List.set_cons_succ]
                refine Rk.takeP (i := 15) (v := ?_) rfl (by kernel_rfl) (by kernel_rfl) (by kernel_rfl) (by kernel_rfl) (fun _ _ _ h => h) (Or.inl ⟨by kernel_rfl, ?_⟩) (by assumption) ?_
                rotate_left
                · ((intro w hSw; go_simp) <;> with_reducible rfl)
                try simp only [Act.put, List.setIfInBounds_toArray, List.set_cons_zero, List.set_cons_succ]
                refine Rk.tail [17, 18] [_, _] (by kernel_rfl) (by kernel_rfl) rfl (by decide) ?_
                obtain ⟨-, -, -, K8⟩ := hHeld
                have hnb : wr.heap.size ≤ wr.heap.size := by first | exact Nat.le_refl _ | exact hs7
                have m0 := MB.c0
                have m1 := MB.c1
                have m2 := MB.c2
                have n0 := MB.fz 0
                have n1 := MB.fz 1
                have n2 := MB.fz 2
                have lm := MB.lt
                go_wp2_with fail
                go_meet
                exact ⟨wr.heap.size, qv, cv, rfl, rfl, Lib.hid (((K8.setCell (p := ⟨wr.heap.size, 0, none⟩) hnb _).setCell (p := ⟨wr.heap.size, 1, none⟩) hnb _).setCell (p := ⟨wr.heap.size, 2, none⟩) hnb _), Lib.hid (b3_set MB _ _ _), Lib.hid (own_b3s hov MB)⟩
            case rest =>
              obtain ⟨b8, qv2, cv2, rfl, rfl, KX, HB8, OVE⟩ := hcut
              have n0 := HB8.out.c0
              have n1 := HB8.out.c1
              have n2 := HB8.out.c2
              have ln := HB8.out.lt
              have HSX := Lib.hid (HSI.out.low KX.out)
              have hfw : NX.length ≤ 1764 := by rw [HNL.out]; exact hm24
              have hcast : ((a + 1 : Nat) : Int) = (a : Int) + 1 := by push_cast; rfl
              have ADX := AD1.out NX q2 m2 d2 _ (a + 1) l s qv2 cv2 HSX.out.rn HNL.out hfw HSX.out.be.size OVE.out
              rw [hcast] at ADX
              have HADX := Lib.hid ADX
              clear ADX hcast
              go_upto_region 8 with (go_at_call 53; refine (HADX.out).mono ?_; rintro e wy ⟨q3, m3, d3, rfl, hml, hro, hgr, hnw⟩; have HS3 := Lib.hid (HSX.out.add (x := (a, l, s)) HPM.out hl0 han hro hgr hnw); have HM3 := Lib.hid hml; clear hml hro hgr hnw)
              have M34 : m3 ≤ 1764 := by
                have h := few hN hS HS3.out.nx.nd (HS3.out.nx.wf HWF.out)
                rw [List.length_map] at h
                rw [← HM3.out]
                exact h
              go_wp2_with fail
              go_roundw
              case rel => exact ⟨i + 1, m3, d3, q3, _, rfl, by simp, by omega, M34, HM3, HS3⟩
              case measure => simp [intOf]; omega
          · rw [decide_eq_false han] at DA
            have CR : Hid (∀ y, Below wr.heap.size wr y → Calls Try.prog 52 #[.agg #[.int .i64 (a : Int), .int .i64 (l : Int), .slice qu S cu], .int .i64 (N : Int), .agg #[.int .i64 1, .int .i64 (IntKind.i64.wrap ((a : Int) + 1)), .int .i64 0]] y fun e y' => Below y.heap.size y y' ∧ e = .returned (.tuple #[.agg #[.int .i64 (a : Int), .int .i64 (l : Int), .slice qu S cu], .bool false])) := Lib.hid fun y hy => (DA y (Lib.hid (own_low HU6.out hy)) (Nat.le_trans HSI.out.be.size hy.size)).mono fun _ _ h => h.no
            clear DA
            go_upto_region 11 with fail
            go_cut [9, 10] from 34 to 49 (fun p9 p10 wx => p10 = .bool false ∧ Hid (Below wr.heap.size wr wx))
            case first =>
              have HS : Hid (∀ u u' : World, (u.cell? ⟨g, i * 3, none⟩ = some (.int .i64 (a : Int)) ∧ u.cell? ⟨g, i * 3 + 1, none⟩ = some (.int .i64 (l : Int)) ∧ u.cell? ⟨g, i * 3 + 2, none⟩ = some (.slice qu S cu) ∧ Below wr.heap.size wr u) → Below u.heap.size u u' → (u'.cell? ⟨g, i * 3, none⟩ = some (.int .i64 (a : Int)) ∧ u'.cell? ⟨g, i * 3 + 1, none⟩ = some (.int .i64 (l : Int)) ∧ u'.cell? ⟨g, i * 3 + 2, none⟩ = some (.slice qu S cu) ∧ Below wr.heap.size wr u')) := Lib.hid (fun u u' h hb => ⟨Rg.keep hb (World.block_lt_of_cell? _ _ h.1) h.1, Rg.keep hb (World.block_lt_of_cell? _ _ h.2.1) h.2.1, Rg.keep hb (World.block_lt_of_cell? _ _ h.2.2.1) h.2.2.1, h.2.2.2.trans (hb.mono h.2.2.2.size)⟩)
              refine Rk.begin (S := fun wS => wS.cell? ⟨g, i * 3, none⟩ = some (.int .i64 (a : Int)) ∧ wS.cell? ⟨g, i * 3 + 1, none⟩ = some (.int .i64 (l : Int)) ∧ wS.cell? ⟨g, i * 3 + 2, none⟩ = some (.slice qu S cu) ∧ Below wr.heap.size wr wS) 17 (by kernel_rfl) ⟨y0, y1, y2, Below.drew (Below.refl _ _)⟩ (fun hHeld => ?_)
              refine Rk.takeP (i := 0) (v := ?_) rfl (by kernel_rfl) (by kernel_rfl) (by kernel_rfl) (by kernel_rfl) (fun _ _ _ h => h) (Or.inl ⟨by kernel_rfl, ?_⟩) (by assumption) ?_
              rotate_left
              · ((intro w hSw; go_simp) <;> with_reducible rfl)
              try simp only [Act.put, List.setIfInBounds_toArray, List.set_cons_zero, List.set_cons_succ]
              refine Rk.takeP (i := 1) (v := ?_) rfl (by kernel_rfl) (by kernel_rfl) (by kernel_rfl) (by kernel_rfl) (fun _ _ _ h => h) (Or.inl ⟨by kernel_rfl, ?_⟩) (by assumption) ?_
              rotate_left
              · ((intro w hSw; go_simp) <;> with_reducible rfl)
              try simp only [Act.put, List.setIfInBounds_toArray, List.set_cons_zero, List.set_cons_succ]
              refine Rk.takeP (i := 2) (v := ?_) rfl (by kernel_rfl) (by kernel_rfl) (by kernel_rfl) (by kernel_rfl) (fun _ _ _ h => h) (Or.inl ⟨by kernel_rfl, ?_⟩) (by assumption) ?_
              rotate_left
              · ((intro w hSw; go_simp) <;> with_reducible rfl)
              try simp only [Act.put, List.setIfInBounds_toArray, List.set_cons_zero, List.set_cons_succ]
              refine Rk.take [17] (i := 3) (v := ?_) rfl (by kernel_rfl) (by kernel_rfl) (by kernel_rfl) (by kernel_rfl) (by kernel_rfl) (fun _ _ _ h => h) (Or.inl ⟨by kernel_rfl, ?_⟩) (by assumption) ?_
              rotate_left
              · ((intro w hSw; (try dsimp only at hSw); go_simp) <;> with_reducible rfl)
              try simp only [Act.put, List.setIfInBounds_toArray, List.set_cons_zero, List.set_cons_succ]
              refine Rk.takeP (i := 4) (v := ?_) rfl (by kernel_rfl) (by kernel_rfl) (by kernel_rfl) (by kernel_rfl) (fun _ _ _ h => h) (Or.inl ⟨by kernel_rfl, ?_⟩) (by assumption) ?_
              rotate_left
              · ((intro w hSw; go_simp) <;> with_reducible rfl)
              try simp only [Act.put, List.setIfInBounds_toArray, List.set_cons_zero, List.set_cons_succ]
              refine Rk.takeP (i := 5) (v := ?_) rfl (by kernel_rfl) (by kernel_rfl) (by kernel_rfl) (by kernel_rfl) (fun _ _ _ h => h) (Or.inl ⟨by kernel_rfl, ?_⟩) (by assumption) ?_
              rotate_left
              · ((intro w hSw; go_simp) <;> with_reducible rfl)
              try simp only [Act.put, List.setIfInBounds_toArray, List.set_cons_zero, List.set_cons_succ]
              refine Rk.takeP (i := 6) (v := ?_) rfl (by kernel_rfl) (by kernel_rfl) (by kernel_rfl) (by kernel_rfl) (fun _ _ _ h => h) (Or.inl ⟨by kernel_rfl, ?_⟩) (by assumption) ?_
              rotate_left
              · ((intro w hSw; go_simp) <;> with_reducible rfl)
              try simp only [Act.put, List.setIfInBounds_toArray, List.set_cons_zero, List.set_cons_succ]
              refine Rk.takeP (i := 7) (v := ?_) rfl (by kernel_rfl) (by kernel_rfl) (by kernel_rfl) (by kernel_rfl) (fun _ _ _ h => h) (Or.inl ⟨by kernel_rfl, ?_⟩) (by assumption) ?_
              rotate_left
              · ((intro w hSw; go_simp) <;> with_reducible rfl)
              try simp only [Act.put, List.setIfInBounds_toArray, List.set_cons_zero, List.set_cons_succ]
              refine Rk.takeP (i := 8) (v := ?_) rfl (by kernel_rfl) (by kernel_rfl) (by kernel_rfl) (by kernel_rfl) (fun _ _ _ h => h) (Or.inl ⟨by kernel_rfl, ?_⟩) (by assumption) ?_
              rotate_left
              · ((intro w hSw; go_simp) <;> with_reducible rfl)
              try simp only [Act.put, List.setIfInBounds_toArray, List.set_cons_zero, List.set_cons_succ]
              refine Rk.take [17] (i := 9) (v := ?_) rfl (by kernel_rfl) (by kernel_rfl) (by kernel_rfl) (by kernel_rfl) (by kernel_rfl) (fun _ _ _ h => h) (Or.inl ⟨by kernel_rfl, ?_⟩) (by assumption) ?_
              rotate_left
              · ((intro w hSw; (try dsimp only at hSw); go_simp) <;> with_reducible rfl)
              try simp only [Act.put, List.setIfInBounds_toArray, List.set_cons_zero, List.set_cons_succ]
              refine Rk.takeP (i := 10) (v := ?_) rfl (by kernel_rfl) (by kernel_rfl) (by kernel_rfl) (by kernel_rfl) (fun _ _ _ h => h) (Or.inl ⟨by kernel_rfl, ?_⟩) (by assumption) ?_
              rotate_left
              · ((intro w hSw; go_simp) <;> with_reducible rfl)
              try simp only [Act.put, List.setIfInBounds_toArray, List.set_cons_zero, List.set_cons_succ]
              refine Rk.takeP (i := 11) (v := ?_) rfl (by kernel_rfl) (by kernel_rfl) (by kernel_rfl) (by kernel_rfl) (fun _ _ _ h => h) (Or.inl ⟨by kernel_rfl, ?_⟩) (by assumption) ?_
              rotate_left
              · ((intro w hSw; go_simp) <;> with_reducible rfl)
              try simp only [Act.put, List.setIfInBounds_toArray, List.set_cons_zero, List.set_cons_succ]
              refine Rk.two (i := 12) (j := 16) (by kernel_rfl) rfl rfl (fun KK hK => ?_) (fun KK hK => ?_)
              · rw [if_pos (by kernel_rfl)]
                go_simp
                ((with_reducible refine (CR.out _ (hHeld.2.2.2)).mono ?_); rintro e u7 ⟨hb, rfl⟩)
                have hNew := HS.out _ _ hHeld hb
                have hs7 := (hNew.2.2.2).size
                first | (refine hK.out _ _ (fun _ => hNew) (fun _ => ?_)) | (refine hK.out _ _ hNew (fun _ => ?_)) | (go_wp2_with fail; refine hK.out _ _ hNew (fun _ => ?_))
                replace hHeld := hNew
                clear hNew hb
                clear hK KK
                refine Rk.takeP (i := 13) (v := ?_) rfl (by kernel_rfl) (by kernel_rfl) (by kernel_rfl) (by kernel_rfl) (fun _ _ _ h => h) (Or.inl ⟨by kernel_rfl, ?_⟩) (by assumption) ?_
                rotate_left
                · ((intro w hSw; go_simp) <;> with_reducible rfl)
                try simp only [Act.put, List.setIfInBounds_toArray, List.set_cons_zero, List.set_cons_succ]
                refine Rk.takeP (i := 14) (v := ?_) rfl (by kernel_rfl) (by kernel_rfl) (by kernel_rfl) (by kernel_rfl) (fun _ _ _ h => h) (Or.inl ⟨by kernel_rfl, ?_⟩) (by assumption) ?_
                rotate_left
                · ((intro w hSw; go_simp) <;> with_reducible rfl)
                try simp only [Act.put, List.setIfInBounds_toArray, List.set_cons_zero, List.set_cons_succ]
                refine Rk.takeP (i := 15) (v := ?_) rfl (by kernel_rfl) (by kernel_rfl) (by kernel_rfl) (by kernel_rfl) (fun _ _ _ h => h) (Or.inl ⟨by kernel_rfl, ?_⟩) (by assumption) ?_
                rotate_left
                · ((intro w hSw; go_simp) <;> with_reducible rfl)
                try simp only [Act.put, List.setIfInBounds_toArray, List.set_cons_zero, List.set_cons_succ]
                refine Rk.one (i := 16) (by kernel_rfl) rfl (fun KK hK => ?_)
                rw [if_pos (by kernel_rfl)]
                go_simp
                have hNew := HS.out _ _ hHeld ((Below.refl _ _).alloc (Nat.le_refl _) (Obj.cells #[Value.int .i64 0, Value.int .i64 0, Value.slice none 0 0] 76))
                have MB : B3 (u7.alloc (Obj.cells #[Value.int .i64 0, Value.int .i64 0, Value.slice none 0 0] 76)) u7.heap.size (.int .i64 0) (.int .i64 0) (.slice none 0 0) := B3.new
                refine hK.out _ _ hNew (fun _ => ?_)
                replace hHeld := hNew
                clear hNew
                clear hK KK
                refine Rk.tail [17, 18] [_, _] (by kernel_rfl) (by kernel_rfl) rfl (by decide) ?_
                obtain ⟨-, -, -, K8⟩ := hHeld
                have hnb : wr.heap.size ≤ u7.heap.size := by first | exact Nat.le_refl _ | exact hs7
                generalize hgz : (u7.alloc (Obj.cells #[Value.int .i64 0, Value.int .i64 0, Value.slice none 0 0] 76)) = gz at *
                have m0 := MB.c0
                have m1 := MB.c1
                have m2 := MB.c2
                have n0 := MB.fz 0
                have n1 := MB.fz 1
                have n2 := MB.fz 2
                have lm := MB.lt
                go_wp2_with fail
                go_meet
                exact ⟨rfl, Lib.hid (((K8.setCell (p := ⟨u7.heap.size, 0, none⟩) hnb _).setCell (p := ⟨u7.heap.size, 1, none⟩) hnb _).setCell (p := ⟨u7.heap.size, 2, none⟩) hnb _)⟩
              · rw [if_pos (by kernel_rfl)]
                go_simp
                have hNew := HS.out _ _ hHeld ((Below.refl _ _).alloc (Nat.le_refl _) (Obj.cells #[Value.int .i64 0, Value.int .i64 0, Value.slice none 0 0] 76))
                have MB : B3 ((wr.alloc (Obj.cells #[Value.int .i64 0, Value.int .i64 0, Value.slice none 0 0] 76)).drew) wr.heap.size (.int .i64 0) (.int .i64 0) (.slice none 0 0) := B3.new (w := wr)
                refine hK.out _ _ hNew (fun _ => ?_)
                replace hHeld := hNew
                clear hNew
                replace hHeld : (wr.alloc (Obj.cells #[Value.int .i64 0, Value.int .i64 0, Value.slice none 0 0] 76)).drew.cell? ⟨g, i * 3, none⟩ = some (.int .i64 (a : Int)) ∧ (wr.alloc (Obj.cells #[Value.int .i64 0, Value.int .i64 0, Value.slice none 0 0] 76)).drew.cell? ⟨g, i * 3 + 1, none⟩ = some (.int .i64 (l : Int)) ∧ (wr.alloc (Obj.cells #[Value.int .i64 0, Value.int .i64 0, Value.slice none 0 0] 76)).drew.cell? ⟨g, i * 3 + 2, none⟩ = some (.slice qu S cu) ∧ Below wr.heap.size wr (wr.alloc (Obj.cells #[Value.int .i64 0, Value.int .i64 0, Value.slice none 0 0] 76)).drew := hHeld
                clear hK KK
                refine Rk.one (i := 12) (by kernel_rfl) rfl (fun KK hK => ?_)
                rw [if_pos (by kernel_rfl)]
                go_simp
                ((with_reducible refine (CR.out _ (hHeld.2.2.2)).mono ?_); rintro e u7 ⟨hb, rfl⟩)
                have hNew := HS.out _ _ hHeld hb
                have hs7 := (hNew.2.2.2).size
                replace MB := MB.below hb
                first | (refine hK.out _ _ (fun _ => hNew) (fun _ => ?_)) | (refine hK.out _ _ hNew (fun _ => ?_)) | (go_wp2_with fail; refine hK.out _ _ hNew (fun _ => ?_))
                replace hHeld := hNew
                clear hNew hb
                clear hK KK
                refine Rk.takeP (i := 13) (v := ?_) rfl (by kernel_rfl) (by kernel_rfl) (by kernel_rfl) (by kernel_rfl) (fun _ _ _ h => h) (Or.inl ⟨by kernel_rfl, ?_⟩) (by assumption) ?_
                rotate_left
                · ((intro w hSw; go_simp) <;> with_reducible rfl)
                try simp only [Act.put, List.setIfInBounds_toArray, List.set_cons_zero, List.set_cons_succ]
                refine Rk.takeP (i := 14) (v := ?_) rfl (by kernel_rfl) (by kernel_rfl) (by kernel_rfl) (by kernel_rfl) (fun _ _ _ h => h) (Or.inl ⟨by kernel_rfl, ?_⟩) (by assumption) ?_
                rotate_left
                · ((intro w hSw; go_simp) <;> with_reducible rfl)
                try simp only [Act.put, List.setIfInBounds_toArray, List.set_cons_zero, List.set_cons_succ]
                refine Rk.takeP (i := 15) (v := ?_) rfl (by kernel_rfl) (by kernel_rfl) (by kernel_rfl) (by kernel_rfl) (fun _ _ _ h => h) (Or.inl ⟨by kernel_rfl, ?_⟩) (by assumption) ?_
                rotate_left
                · ((intro w hSw; go_simp) <;> with_reducible rfl)
                try simp only [Act.put, List.setIfInBounds_toArray, List.set_cons_zero, List.set_cons_succ]
                refine Rk.tail [17, 18] [_, _] (by kernel_rfl) (by kernel_rfl) rfl (by decide) ?_
                obtain ⟨-, -, -, K8⟩ := hHeld
                have hnb : wr.heap.size ≤ wr.heap.size := by first | exact Nat.le_refl _ | exact hs7
                have m0 := MB.c0
                have m1 := MB.c1
                have m2 := MB.c2
                have n0 := MB.fz 0
                have n1 := MB.fz 1
                have n2 := MB.fz 2
                have lm := MB.lt
                go_wp2_with fail
                go_meet
                exact ⟨rfl, Lib.hid (((K8.setCell (p := ⟨wr.heap.size, 0, none⟩) hnb _).setCell (p := ⟨wr.heap.size, 1, none⟩) hnb _).setCell (p := ⟨wr.heap.size, 2, none⟩) hnb _)⟩
            case rest =>
              obtain ⟨rfl, KX⟩ := hcut
              have HS3 := Lib.hid ((HSI.out.skip (x := (a, l, s)) HPM.out hl0 han).low KX.out)
              go_wp2_with fail
              go_roundw
              case rel => exact ⟨i + 1, m2, d2, q2, NX, rfl, by simp, by omega, hm24, HNL, HS3⟩
              case measure => simp [intOf]; omega
      · obtain rfl : m = i := by omega
        have gN : decide ((m : Int) < m) = false := by simp
        have hlm : (L.map (·.1)).length = m := by rw [List.length_map, HML.out]
        have hne := HLV.out.not (by omega) (by omega) (fun x hx => by
          obtain ⟨j, hj⟩ := List.getElem?_of_mem hx
          exact HSI.out.nz j x (by rw [← hlm]; exact (List.getElem?_eq_some_iff.1 hj).1) hj)
        rw [HV.out] at hne
        have hc1 : ((c + 1 : Nat) : Int) ≤ V := by omega
        have hc2 : (c : Int) + 1 ≤ V := by omega
        have hnx : Nx N (L.map (·.1)) (L.map (·.1)).length (NX.map (·.1)) := by rw [hlm]; exact HSI.out.nx
        have HNXF := Lib.hid hnx
        have HFX := Lib.hid (FR.out NX q2 m2 d2 wr HSI.out.be.size HNL.out HSI.out.rn hnx.nd (hnx.wf HWF.out))
        clear hne hnx hlm
        go_upto_region 4 with (go_at_call 50; refine (HFX.out).mono ?_; rintro e w1 ⟨q3, m3, d3, L3, rfl, hm, hm34, hro, hfr, hwf, hgr, hnw⟩; have HML3 := Lib.hid hm; have HRO3 := Lib.hid hro; have HLV3 := Lib.hid (HLV.out.next HNXF.out hfr); have HWF3 := Lib.hid hwf; have HBE3 : Hid (Below w.heap.size w w1) := Lib.hid (HSI.out.be.grown hgr HSI.out.be.size (fun k e => (HSI.out.rn.1.lt k e).1)); clear hm hro hfr hwf hgr hnw)
        go_wp2_with fail
        go_roundw
        case rel => exact ⟨c + 1, m3, d3, q3, L3, rfl, by simp, hm34, hc1, HML3, HLV3, HWF3, HRO3, HBE3⟩
        case measure => simp [intOf]; omega
end Go.Proofs.Ytndmpoomdoojpaa.Ck.Sr
