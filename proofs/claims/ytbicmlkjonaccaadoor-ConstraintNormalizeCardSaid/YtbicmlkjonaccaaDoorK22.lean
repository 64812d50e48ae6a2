/- The reference: Normalize, whatever the list. -/
import Derived.Test.YtbicmlkjonaccaaDoorK12
import Derived.Test.YtbicmlkjonaccaaDoorK19
import Derived.Test.YtbicmlkjonaccaaDoorK20
import Derived.Test.YtbicmlkjonaccaaDoorE30
import Derived.Deep.Cut
import Derived.Deep.CutRange

namespace Go.Proofs.YtbicmlkjonaccaaDoor.Ln
open Go.ChangeShapes Go.WideShapes Go.ChangeAt Go.RowKit
open Go.Proofs.YtbicmlkjonaccaaDoor.Nm
set_option linter.unusedVariables false
set_option linter.unusedSimpArgs false
set_option maxRecDepth 8000

/-- What the reference has collected of the first i. -/
def InvQ (l : List Qm) (i : Nat) (OT : List Qm) (s : Bool) : Prop := ∃ so, s = ((l.take i).all posF && so) /\ ColQ ((l.take i).filterMap keepF) OT so
theorem inv_start (l : List Qm) : InvQ l 0 [] true := ⟨true, by simp, by simpa using ColQ.nil⟩
theorem inv_drop {l OT : List Qm} {i : Nat} {s fq : Bool} {K kd : Int} {ys : List Mo} (h : InvQ l i OT s) (hi : i < l.length) (hT : tgQ (l.getD i q0m) = (K, ys, fq, kd, 0)) (hkd : kd ≠ 0) : InvQ l (i + 1) OT (s && kd != 2) := by
 obtain ⟨so, h1, h2⟩ := h
 have hk : keepF (l.getD i q0m) = none := by unfold keepF; rw [hT]; simp [hkd]
 have hp : posF (l.getD i q0m) = (kd != 2) := by unfold posF; rw [hT]
 refine ⟨so, ?_, ?_⟩
 ·rw [qtake hi, List.all_append, h1]
  simp only [List.all_cons, hp, List.all_nil, Bool.and_true]
  cases (l.take i).all posF <;> cases so <;> simp
 ·rw [qtake hi, List.filterMap_append]
  simp only [List.filterMap_cons, hk, List.filterMap_nil, List.append_nil]
  exact h2
theorem inv_add {l OT : List Qm} {i : Nat} {s fq : Bool} {K : Int} {ys : List Mo} (h : InvQ l i OT s) (hi : i < l.length) (hT : tgQ (l.getD i q0m) = (K, ys, fq, 0, 0)) : InvQ l (i + 1) (addQ OT (K, ys, fq)).1 (s && (addQ OT (K, ys, fq)).2) := by
 obtain ⟨so, h1, h2⟩ := h
 have hk : keepF (l.getD i q0m) = some (K, ys, fq) := by unfold keepF; rw [hT]; simp
 have hp : posF (l.getD i q0m) = true := by unfold posF; rw [hT]; simp
 refine ⟨so && (addQ OT (K, ys, fq)).2, ?_, ?_⟩
 ·rw [qtake hi, List.all_append, h1]
  simp only [List.all_cons, hp, List.all_nil, Bool.and_true, Bool.and_assoc]
 ·rw [qtake hi, List.filterMap_append]
  simp only [List.filterMap_cons, hk, List.filterMap_nil]
  exact h2.step _
theorem inv_no {l OT : List Qm} (hl : l.length <= 256) (he : (firF l 0).2 = 0) (h : InvQ l l.length OT false) : NzR l ([], false, 0) := by
 obtain ⟨so, h1, h2⟩ := h
 rw [List.take_length] at h1 h2
 refine ⟨fun h2 => by omega, fun _ h2 => absurd he h2, fun _ _ _ => rfl, fun _ _ _ _ => rfl, fun _ _ h3 h4 => ?_⟩
 rw [h3, Bool.true_and] at h1
 exact absurd h4 (h2.no h1.symm)
theorem inv_yes {l OT T : List Qm} (hl : l.length <= 256) (he : (firF l 0).2 = 0) (h : InvQ l l.length OT true) (P : T.Perm OT) (S : T.Pairwise fun a b => ¬ fc b a < 0) : NzR l (T, true, 0) := by
 obtain ⟨so, h1, h2⟩ := h
 rw [List.take_length] at h1 h2
 have h3 : l.all posF = true := by cases h : l.all posF; (rw [h] at h1; simp at h1); rfl
 have h4 : so = true := by rw [h3] at h1; simpa using h1.symm
 obtain ⟨c, b⟩ := h2.yes h4
 refine ⟨fun h2 => by omega, fun _ h2 => absurd he h2, fun _ _ h5 => absurd (h3.symm.trans h5) (by simp), fun _ _ _ h5 => absurd c h5, fun _ _ _ _ => ⟨rfl, ?_, fun x => ?_⟩⟩
 ·have D : T.Pairwise fun a b => a.2.1 ≠ b.2.1 := (P.pairwise_iff (fun {a b} h => fun e => h e.symm)).2 h2.dis
  refine (S.and D).imp fun {a b} ⟨h5, h6⟩ => ?_
  rw [fc_lt] at h5
  have sw := lc_swap a.2.1 b.2.1
  have hz : lc a.2.1 b.2.1 ≠ 0 := fun h7 => h6 ((lc_zero _ _).1 h7)
  have h8 : ¬ lc b.2.1 a.2.1 < 0 := fun h9 => h5 (.inl h9)
  omega
 ·refine ⟨fun hx => b x (P.mem_iff.1 hx), fun hx => ?_⟩
  obtain ⟨y, hy, hm⟩ := h2.cov x hx.1
  have := Bst.uniq (b y hy) hx hm
  rw [<- this]
  exact P.mem_iff.2 hy
theorem inv_err {l : List Qm} {e : Int} {j : Nat} (hl : l.length <= 256) (h : firF l 0 = (j, e)) (he : e ≠ 0) : NzR l ([], false, e) := by
 have h2 : (firF l 0).2 = e := by rw [h]
 exact ⟨fun h2 => by omega, fun _ _ => by rw [h2], fun _ h3 => absurd (h2.symm.trans h3) he, fun _ h3 => absurd (h2.symm.trans h3) he, fun _ h3 => absurd (h2.symm.trans h3) he⟩
theorem addQ_new : ∀ {OT : List Qm} {t : Qm}, (∀ j, j < OT.length -> (OT.getD j q0m).2.1 ≠ t.2.1) -> addQ OT t = (OT ++ [t], true)
 | [], t, _ => rfl
 | a :: r, t, h => by
  have ih := addQ_new (OT := r) (t := t) fun j hj => h (j + 1) (by simpa using hj)
  unfold addQ
  rw [if_neg (show ¬ a.2.1 = t.2.1 from h 0 (by simp)), ih]
  rfl
theorem addQ_at : ∀ {OT : List Qm} {t : Qm} {k : Nat}, k < OT.length -> (∀ j, j < k -> (OT.getD j q0m).2.1 ≠ t.2.1) -> (OT.getD k q0m).2.1 = t.2.1 -> addQ OT t = (OT.set k (strQ (OT.getD k q0m) t).1, (strQ (OT.getD k q0m) t).2)
 | [], t, k, hk, _, _ => absurd hk (by simp)
 | a :: r, t, 0, _, _, h => by
  unfold addQ
  rw [if_pos (show a.2.1 = t.2.1 from h)]
  rfl
 | a :: r, t, k + 1, hk, h1, h2 => by
  have ih := addQ_at (OT := r) (t := t) (k := k) (by simpa using hk) (fun j hj => h1 (j + 1) (by omega)) h2
  unfold addQ
  rw [if_neg (show ¬ a.2.1 = t.2.1 from h1 0 (by omega)), ih]
  rfl
theorem StdL.set {w : World} {L : List E5} {ts : List Qm} {e : E5} {t : Qm} {k : Nat} (h : StdL w L ts) (s : Std w e t) : StdL w (L.set k e) (ts.set k t) := by
 refine ⟨by rw [List.length_set, List.length_set]; exact h.1, fun i hi => ?_⟩
 rw [List.length_set] at hi
 have hL : i < L.length := by rw [h.1]; exact hi
 rw [List.getD_eq_getElem?_getD, List.getD_eq_getElem?_getD, List.getElem?_set, List.getElem?_set]
 by_cases c : k = i
 ·subst c
  rw [if_pos rfl, if_pos rfl, if_pos hL, if_pos hi]
  exact s
 ·rw [if_neg c, if_neg c, <- List.getD_eq_getElem?_getD, <- List.getD_eq_getElem?_getD]
  exact h.2 i hi
theorem Std.on {w w' : World} {e : E5} {t : Qm} (h : Std w e t) (k : K59 w w') : Std w' e t := ⟨h.1, h.2.1, h.2.2.1, h.2.2.2.on k⟩
theorem set3_world {g cap base n m : Nat} {L2 : List E5} {u : World} {k : Int} {q : Option Addr} {a d : Nat} {e : Bool} (hbg : base <= g) (O : u.ownsRow base 36 3 (.slice (some ⟨g, 0, none⟩) n cap) n (rowE L2)) (h0 : m < L2.length) :
  (((u.setCell ⟨g, m * 3, none⟩ (.int .i64 k)).setCell ⟨g, m * 3 + 1, none⟩ (.slice q a d)).setCell ⟨g, m * 3 + 2, none⟩ (.bool e)).ownsRow base 36 3 (.slice (some ⟨g, 0, none⟩) n cap) n (rowE (L2.set m (k, q, a, d, e))) /\ K59 u (((u.setCell ⟨g, m * 3, none⟩ (.int .i64 k)).setCell ⟨g, m * 3 + 1, none⟩ (.slice q a d)).setCell ⟨g, m * 3 + 2, none⟩ (.bool e)) /\ Below base u (((u.setCell ⟨g, m * 3, none⟩ (.int .i64 k)).setCell ⟨g, m * 3 + 1, none⟩ (.slice q a d)).setCell ⟨g, m * 3 + 2, none⟩ (.bool e)) := by
 have Q0 := O.stored (m * 3) (.int .i64 k)
 have J0 := K59.own O (by decide) Q0.2
 have Q1 := Q0.1.stored (m * 3 + 1) (.slice q a d)
 have J1 := K59.own Q0.1 (by decide) Q1.2
 have Q2 := Q1.1.stored (m * 3 + 2) (.bool e)
 have J2 := K59.own Q1.1 (by decide) Q2.2
 refine ⟨?_, (J0.trans J1).trans J2, (((Below.refl base u).setCell (p := ⟨g, m * 3, none⟩) hbg _).setCell (p := ⟨g, m * 3 + 1, none⟩) hbg _).setCell (p := ⟨g, m * 3 + 2, none⟩) hbg _⟩
 have h := Q2.1
 rw [rowE_set L2 m (k, q, a, d, e) h0] at h
 exact h

theorem rnz_lim (p : Option Addr) (l : List Qm) (c : Nat) (w : World) (hl : l.length <= 1000) (h : 256 < l.length) : Calls Tryd.prog 37 #[.slice p l.length c] w (NZ l w) := by
 have HN : Hid (NzR l ([], false, 2)) := Lib.hid ⟨fun _ => rfl, fun h2 => by omega, fun h2 => by omega, fun h2 => by omega, fun h2 => by omega⟩
 have h2 : (256 : Int) < l.length := by omega
 go_enter Tryd.func37, Tryd.ntmps37
 go_wp2_with fail
 refine bodyPost_ret (v := .tuple #[.slice none 0 0, .bool false, .int .i64 2]) (by simp [results, Tryd.results37, go_sem]) rfl ?_
 exact ⟨([], false, 2), none, 0, HN.out, rfl, fun i hi => absurd hi (Nat.not_lt_zero _), Nat.le_refl _, Below.refl _ _⟩
end Go.Proofs.YtbicmlkjonaccaaDoor.Ln


namespace Go.Proofs.YtbicmlkjonaccaaDoor.Ln
open Go.ChangeShapes Go.WideShapes Go.ChangeAt Go.RowKit
open Go.Proofs.YtbicmlkjonaccaaDoor.Nm
set_option linter.unusedVariables false
set_option linter.unusedSimpArgs false
set_option maxRecDepth 8000

set_option maxRecDepth 100000 in
set_option maxHeartbeats 16000000 in
theorem rnz_main (p : Option Addr) (l : List Qm) (c : Nat) (w : World) (hl : l.length <= 256) (RA : Hid (SlQ w p l)) (HTQ : Hid (∀ f ∈ l, (tgQ f).2.1.length <= maxLen))
  (T : Hid (∀ f ∈ l, ∀ p c w', SlM w' p f.2.1 -> Calls Tryd.prog 29 #[Cv f.1 p f.2.1.length c f.2.2] w' (TQ (tgQ f) w'))) : Calls Tryd.prog 37 #[.slice p l.length c] w (NZ l w) := by
 obtain ⟨RES, hRES⟩ : ∃ RES, firF l 0 = RES := ⟨_, rfl⟩
 have HR0 := Lib.hid hRES
 have hl9 := Lib.hid hl
 have h2 : ¬ (256 : Int) < l.length := by omega
 have SO := Lib.hid fun (q : Option Addr) (cap n : Nat) (L0 : List E5) (ts : List Qm) (w1 : World) hn hL hO HS hm hbw => rsortV q cap w.heap.size n L0 ts w1 hn hL hO HS hm hbw
 obtain ⟨n, hnn⟩ : ∃ n, l.length = n := ⟨_, rfl⟩
 have HN := Lib.hid hnn
 rw [hnn] at hl h2 ⊢
 clear hnn hRES
 go_enter Tryd.func37, Tryd.ntmps37
 go_wp2_with fail
 go_loopw [5, 6, 7] (fun ov sv iv wr => ∃ (i : Nat) (kq : Option Addr) (kc : Nat) (OL : List E5) (OT : List Qm) (s : Bool), ov = .slice kq OL.length kc /\ sv = .bool s /\ iv = .int .i64 i /\ i <= n /\ OL.length <= i /\ w.heap.size <= wr.heap.size /\ Hid (wr.ownsRow w.heap.size 36 3 (.slice kq OL.length kc) OL.length (rowE OL)) /\ Hid (StdL wr OL OT) /\ Hid (InvQ l i OT s) /\ Hid (firF (l.drop i) i = RES) /\ Hid (Below w.heap.size w wr)) (fun _ _ iv _ => n - (intOf iv).toNat)
 case atStart => exact ⟨0, none, 0, [], [], true, rfl, rfl, rfl, Nat.zero_le _, Nat.le_refl _, Nat.le_refl _, Lib.hid (World.ownsRow_nil _ _ _ _), Lib.hid ⟨rfl, fun i hi => absurd hi (Nat.not_lt_zero _)⟩, Lib.hid (inv_start l), HR0, Lib.hid (Below.refl _ _)⟩
 case round =>
  obtain ⟨i, kq, kc, OL, OT, s, rfl, rfl, rfl, hin, hol, hbw, HO, HST, HI, HF, HBW⟩ := hrel
  obtain ⟨lo, hlo⟩ : ∃ lo, OL.length = lo := ⟨_, rfl⟩
  have HLO := Lib.hid hlo
  rw [hlo] at hol HO ⊢
  clear hlo
  have ii : (0 : Int) <= i := by omega
  by_cases hlt : i < n
  ·have i2 : (i : Int) < n := by omega
   have hil : i < l.length := by rw [HN.out]; exact hlt
   have HIL := Lib.hid hil
   obtain ⟨b, o, q, d, rfl, c0, c1, c2, hM⟩ := (SlQ.keep HBW.out RA.out) i hil
   have HMf := Lib.hid hM
   have HTL : Hid (∀ t ∈ OT, t.2.1.length <= maxLen) := Lib.hid fun t ht => by
    obtain ⟨so, _, hc⟩ := HI.out
    have h1 := hc.sub t ht
    obtain ⟨f, hf, hk⟩ := List.mem_filterMap.1 h1
    have h3 := HTQ.out f (List.mem_of_mem_take hf)
    unfold keepF at hk
    split at hk
    ·cases hk; exact h3
    ·cases hk
   have TT := Lib.hid (T.out _ (qget hil))
   have HYL0 := HTQ.out _ (qget hil)
   have hdr : l.drop i = l.getD i q0m :: l.drop (i + 1) := by
    rw [List.drop_eq_getElem_cons hil]; simp [List.getD, List.getElem?_eq_getElem hil]
   have hE1 := HF.out
   rw [hdr] at hE1
   unfold firF at hE1
   obtain ⟨K, ys, fq, kd, er, hT, hkd⟩ := tg_kinds (l.getD i q0m).1 (l.getD i q0m).2.1 (l.getD i q0m).2.2
   have hT : tgQ (l.getD i q0m) = (K, ys, fq, kd, er) := hT
   have hER : errF (l.getD i q0m) = er := by unfold errF; rw [hT]
   rw [hER] at hE1
   rw [hT] at TT HYL0
   have HYL : Hid (ys.length <= maxLen) := Lib.hid HYL0
   obtain ⟨f, hf⟩ : ∃ f, l.getD i q0m = f := ⟨_, rfl⟩
   rw [hf] at c0 c1 c2 HMf TT
   obtain ⟨k, xs, eqf⟩ := f
   dsimp only at c0 c1 c2 HMf TT
   unfold Cv at TT
   clear hf hdr hER HYL0 hM HF
   cases s
   all_goals

    rcases hkd with ⟨rfl, rfl⟩ | ⟨rfl, rfl⟩ | ⟨rfl, rfl⟩ | ⟨rfl, her⟩
    ·have HFn : Hid (firF (l.drop (i + 1)) (i + 1) = RES) := Lib.hid (by simpa using hE1)
     have HT := Lib.hid hT
     clear hE1 hT
     go_wp2_with (go_at_call 29; (with_reducible refine (TT.out q d _ HMf.out).mono ?_); rintro e w1 ⟨pt, ct, rfl, S1, hfr, hb⟩; (try unfold Cv); dsimp only at S1 hfr ⊢; have SKt := Lib.hid (show SlK w1 pt ys from ⟨S1, hfr⟩); have KB1 := Lib.hid hb; have lb1 := hb.size; clear hb S1 hfr)
     have SKz := Lib.hid (SKt.out.on (K59.below ((Below.refl _ _).alloc (Nat.le_refl _) (Obj.cells #[Value.int .i64 K, Value.slice pt ys.length ct, Value.bool fq] 36))))
     have KO : Hid (Below wr.heap.size wr (w1.alloc (Obj.cells #[Value.int .i64 K, Value.slice pt ys.length ct, Value.bool fq] 36))) := Lib.hid (KB1.out.alloc lb1 (Obj.cells #[Value.int .i64 K, Value.slice pt ys.length ct, Value.bool fq] 36))
     have HOz := Lib.hid (own_belowE HO.out KO.out)
     have HSz := Lib.hid (HST.out.on (K59.below KO.out))
     have HBz := Lib.hid (HBW.out.trans (KO.out.mono HBW.out.size))
     have HZ0 : Hid ((w1.alloc (Obj.cells #[Value.int .i64 K, Value.slice pt ys.length ct, Value.bool fq] 36)).cell? ⟨w1.heap.size, 0, none⟩ = some (.int .i64 K)) := Lib.hid (by go_cell)
     have HZ1 : Hid ((w1.alloc (Obj.cells #[Value.int .i64 K, Value.slice pt ys.length ct, Value.bool fq] 36)).cell? ⟨w1.heap.size, 1, none⟩ = some (.slice pt ys.length ct)) := Lib.hid (by go_cell)
     have HZ2 : Hid ((w1.alloc (Obj.cells #[Value.int .i64 K, Value.slice pt ys.length ct, Value.bool fq] 36)).cell? ⟨w1.heap.size, 2, none⟩ = some (.bool fq)) := Lib.hid (by go_cell)
     have lwz : w1.heap.size < (w1.alloc (Obj.cells #[Value.int .i64 K, Value.slice pt ys.length ct, Value.bool fq] 36)).heap.size := by simp
     clear KO KB1 SKt HO HST HBW
     obtain ⟨wt, hwt⟩ : ∃ wt, w1.heap.size = wt := ⟨_, rfl⟩
     rw [hwt] at HZ0 HZ1 HZ2 lwz ⊢
     generalize w1.alloc (Obj.cells #[Value.int .i64 K, Value.slice pt ys.length ct, Value.bool fq] 36) = wz at *

     go_loopw [11] (fun av wr2 => ∃ ai : Nat, av = .int .i64 (ai : Int) /\ ai <= lo /\ Hid (Below wz.heap.size wz wr2) /\ Hid (∀ j, j < ai -> (OT.getD j q0m).2.1 ≠ ys)) (fun av _ => lo - (intOf av).toNat)
     case atStart => exact ⟨0, rfl, Nat.zero_le _, Lib.hid (Below.refl _ _), Lib.hid fun j hj => absurd hj (Nat.not_lt_zero _)⟩
     case round =>
      obtain ⟨ai, rfl, hai, KX, HNE⟩ := hrel
      have m0 : (0 : Int) <= ai := by omega
      have HOr := Lib.hid (own_belowE HOz.out KX.out)
      have HSr := Lib.hid (HSz.out.on (K59.below KX.out))
      have HBr := Lib.hid (HBz.out.trans (KX.out.mono HBz.out.size))
      have SKr := Lib.hid (SKz.out.on (K59.below KX.out))
      have HB0 := Lib.hid (Rg.keep KX.out lwz HZ0.out)
      have HB1 := Lib.hid (Rg.keep KX.out lwz HZ1.out)
      have HB2 := Lib.hid (Rg.keep KX.out lwz HZ2.out)
      have lwt : wt < wr.heap.size := World.block_lt_of_cell? _ _ HB0.out
      by_cases hlt : ai < lo
      ·obtain ⟨gk, rfl, hbg⟩ : ∃ gk, kq = some ⟨gk, 0, none⟩ /\ w.heap.size <= gk := by
        rcases HOr.out.2 with ⟨hv, h0⟩ | ⟨g, cap', cur, hv, hb, r⟩
        ·omega
        ·cases hv; exact ⟨g, rfl, hb⟩
       have m1 : (ai : Int) < lo := by omega
       have m2 : decide ((ai : Int) < lo) = true := by rw [decide_eq_true_eq]; exact m1
       have m3 : ((ai : Int) == lo) = false := by rw [beq_eq_false_iff_ne]; omega
       obtain ⟨a0, a1, a2⟩ := rowE_get OL ai (by rw [HLO.out]; exact hlt)
       replace a0 := (HOr.out.cellAt (ai * 3) (by omega)).trans a0
       replace a1 := (HOr.out.cellAt (ai * 3 + 1) (by omega)).trans a1
       replace a2 := (HOr.out.cellAt (ai * 3 + 2) (by omega)).trans a2
       obtain ⟨s0, s1, s2, s3⟩ := HSr.out.2 ai (by rw [<- HSr.out.1, HLO.out]; exact hlt)
       have hxm := HTL.out _ (tmem (j := ai) (ts := OT) (by rw [<- HSr.out.1, HLO.out]; exact hlt))
       obtain ⟨xs, hxs⟩ : ∃ xs, (OT.getD ai q0m).2.1 = xs := ⟨_, rfl⟩
       rw [hxs] at s1 s3 hxm
       obtain ⟨X, hX⟩ : ∃ X, OL.getD ai e50 = X := ⟨_, rfl⟩
       rw [hX] at a0 a1 a2 s1 s3
       obtain ⟨xk, xq, xn, xd, xe⟩ := X
       dsimp only at a0 a1 a2 s1 s3
       subst s1
       have SMX := Lib.hid s3.1
       have SMY := Lib.hid SKr.out.1
       have HXE := Lib.hid hX
       have HXM := Lib.hid hxs
       have HA2 := Lib.hid a2
       have b0 := HB0.out
       have b1 := HB1.out
       have MN0 := fun w h0 h1 => rmono xk xq xs xd K pt ys ct w hxm HYL.out h0 h1
       obtain ⟨qb, hqb⟩ : ∃ qb, decide (lc xs ys = 0) = qb := ⟨_, rfl⟩
       rw [hqb] at MN0
       unfold Lv at MN0
       have MN := Lib.hid MN0
       have HQB := Lib.hid hqb
       clear MN0 s0 s2 s3 hxm hxs hX hqb a2
       have HS : Hid (∀ u u' : World, (u.cell? ⟨gk, ai * 3, none⟩ = some (.int .i64 xk) /\ u.cell? ⟨gk, ai * 3 + 1, none⟩ = some (.slice xq xs.length xd) /\ u.cell? ⟨wt, 0, none⟩ = some (.int .i64 K) /\ u.cell? ⟨wt, 1, none⟩ = some (.slice pt ys.length ct) /\ Below wr.heap.size wr u) -> Below u.heap.size u u' -> (u'.cell? ⟨gk, ai * 3, none⟩ = some (.int .i64 xk) /\ u'.cell? ⟨gk, ai * 3 + 1, none⟩ = some (.slice xq xs.length xd) /\ u'.cell? ⟨wt, 0, none⟩ = some (.int .i64 K) /\ u'.cell? ⟨wt, 1, none⟩ = some (.slice pt ys.length ct) /\ Below wr.heap.size wr u')) := Lib.hid (fun u u' h hb => ⟨Rg.keep hb (World.block_lt_of_cell? _ _ h.1) h.1, Rg.keep hb (World.block_lt_of_cell? _ _ h.2.1) h.2.1, Rg.keep hb (World.block_lt_of_cell? _ _ h.2.2.1) h.2.2.1, Rg.keep hb (World.block_lt_of_cell? _ _ h.2.2.2.1) h.2.2.2.1, h.2.2.2.2.trans (hb.mono h.2.2.2.2.size)⟩)
       cases qb with
       | false =>
        go_wp2_with fail
        refine Rk.begin (S := fun wS => wS.cell? ⟨gk, ai * 3, none⟩ = some (.int .i64 xk) /\ wS.cell? ⟨gk, ai * 3 + 1, none⟩ = some (.slice xq xs.length xd) /\ wS.cell? ⟨wt, 0, none⟩ = some (.int .i64 K) /\ wS.cell? ⟨wt, 1, none⟩ = some (.slice pt ys.length ct) /\ Below wr.heap.size wr wS) 13 (by kernel_rfl) ⟨a0, a1, b0, b1, Below.drew (Below.refl _ _)⟩ (fun hHeld => ?_)
        refine Rk.takeP (i := 0) (v := ?_) rfl (by kernel_rfl) (by kernel_rfl) (by kernel_rfl) (by kernel_rfl) (fun _ _ _ h => h) (Or.inl ⟨by kernel_rfl, ?_⟩) (by assumption) ?_
        rotate_left
        ·((intro w hSw; go_simp) <;> with_reducible rfl)
        try simp only [Act.put, List.setIfInBounds_toArray, List.set_cons_zero, List.set_cons_succ]
        refine Rk.takeP (i := 1) (v := ?_) rfl (by kernel_rfl) (by kernel_rfl) (by kernel_rfl) (by kernel_rfl) (fun _ _ _ h => h) (Or.inl ⟨by kernel_rfl, ?_⟩) (by assumption) ?_
        rotate_left
        ·((intro w hSw; go_simp) <;> with_reducible rfl)
        try simp only [Act.put, List.setIfInBounds_toArray, List.set_cons_zero, List.set_cons_succ]
        refine Rk.takeP (i := 2) (v := ?_) rfl (by kernel_rfl) (by kernel_rfl) (by kernel_rfl) (by kernel_rfl) (fun _ _ _ h => h) (Or.inl ⟨by kernel_rfl, ?_⟩) (by assumption) ?_
        rotate_left
        ·((intro w hSw; go_simp) <;> with_reducible rfl)
        try simp only [Act.put, List.setIfInBounds_toArray, List.set_cons_zero, List.set_cons_succ]
        refine Rk.takeP (i := 3) (v := ?_) rfl (by kernel_rfl) (by kernel_rfl) (by kernel_rfl) (by kernel_rfl) (fun _ _ _ h => h) (Or.inl ⟨by kernel_rfl, ?_⟩) (by assumption) ?_
        rotate_left
        ·((intro w hSw; go_simp) <;> with_reducible rfl)
        try simp only [Act.put, List.setIfInBounds_toArray, List.set_cons_zero, List.set_cons_succ]
        refine Rk.takeP (i := 4) (v := ?_) rfl (by kernel_rfl) (by kernel_rfl) (by kernel_rfl) (by kernel_rfl) (fun _ _ _ h => h) (Or.inl ⟨by kernel_rfl, ?_⟩) (by assumption) ?_
        rotate_left
        ·((intro w hSw; go_simp) <;> with_reducible rfl)
        try simp only [Act.put, List.setIfInBounds_toArray, List.set_cons_zero, List.set_cons_succ]
        refine Rk.takeP (i := 5) (v := ?_) rfl (by kernel_rfl) (by kernel_rfl) (by kernel_rfl) (by kernel_rfl) (fun _ _ _ h => h) (Or.inl ⟨by kernel_rfl, ?_⟩) (by assumption) ?_
        rotate_left
        ·((intro w hSw; go_simp) <;> with_reducible rfl)
        try simp only [Act.put, List.setIfInBounds_toArray, List.set_cons_zero, List.set_cons_succ]
        refine Rk.takeP (i := 6) (v := ?_) rfl (by kernel_rfl) (by kernel_rfl) (by kernel_rfl) (by kernel_rfl) (fun _ _ _ h => h) (Or.inl ⟨by kernel_rfl, ?_⟩) (by assumption) ?_
        rotate_left
        ·((intro w hSw; go_simp) <;> with_reducible rfl)
        try simp only [Act.put, List.setIfInBounds_toArray, List.set_cons_zero, List.set_cons_succ]
        refine Rk.takeP (i := 7) (v := ?_) rfl (by kernel_rfl) (by kernel_rfl) (by kernel_rfl) (by kernel_rfl) (fun _ _ _ h => h) (Or.inl ⟨by kernel_rfl, ?_⟩) (by assumption) ?_
        rotate_left
        ·((intro w hSw; go_simp) <;> with_reducible rfl)
        try simp only [Act.put, List.setIfInBounds_toArray, List.set_cons_zero, List.set_cons_succ]
        refine Rk.takeP (i := 8) (v := ?_) rfl (by kernel_rfl) (by kernel_rfl) (by kernel_rfl) (by kernel_rfl) (fun _ _ _ h => h) (Or.inl ⟨by kernel_rfl, ?_⟩) (by assumption) ?_
        rotate_left
        ·((intro w hSw; go_simp) <;> with_reducible rfl)
        try simp only [Act.put, List.setIfInBounds_toArray, List.set_cons_zero, List.set_cons_succ]
        refine Rk.take [12, 13] (i := 9) (v := ?_) rfl (by kernel_rfl) (by kernel_rfl) (by kernel_rfl) (by kernel_rfl) (by kernel_rfl) (fun _ _ _ h => h) (Or.inl ⟨by kernel_rfl, ?_⟩) (by assumption) ?_
        rotate_left
        ·((intro w hSw; (try dsimp only at hSw); go_simp) <;> with_reducible rfl)
        try simp only [Act.put, List.setIfInBounds_toArray, List.set_cons_zero, List.set_cons_succ]
        refine Rk.takeP (i := 10) (v := ?_) rfl (by kernel_rfl) (by kernel_rfl) (by kernel_rfl) (by kernel_rfl) (fun _ _ _ h => h) (Or.inl ⟨by kernel_rfl, ?_⟩) (by assumption) ?_
        rotate_left
        ·((intro w hSw; go_simp) <;> with_reducible rfl)
        try simp only [Act.put, List.setIfInBounds_toArray, List.set_cons_zero, List.set_cons_succ]
        refine Rk.take [12, 13] (i := 11) (v := ?_) rfl (by kernel_rfl) (by kernel_rfl) (by kernel_rfl) (by kernel_rfl) (by kernel_rfl) (fun _ _ _ h => h) (Or.inl ⟨by kernel_rfl, ?_⟩) (by assumption) ?_
        rotate_left
        ·((intro w hSw; (try dsimp only at hSw); go_simp) <;> with_reducible rfl)
        try simp only [Act.put, List.setIfInBounds_toArray, List.set_cons_zero, List.set_cons_succ]
        refine Rk.one (i := 12) (by kernel_rfl) rfl (fun KK hK => ?_)
        rw [if_pos (by kernel_rfl)]
        go_simp
        ((with_reducible refine (MN.out _ (Lib.hid (SlM.keep hHeld.2.2.2.2 SMX.out)) (Lib.hid (SlM.keep hHeld.2.2.2.2 SMY.out))).mono ?_); rintro e u ⟨rfl, hb⟩)
        first | (refine hK.out _ _ (fun _ => HS.out _ _ hHeld hb) (fun hHeld => ?_)) | (refine hK.out _ _ (HS.out _ _ hHeld hb) (fun hHeld => ?_)) | (go_wp2_with fail; refine hK.out _ _ (HS.out _ _ hHeld hb) (fun hHeld => ?_))
        clear hK KK
        refine Rk.tail [13, 14] [_, _] (by kernel_rfl) (by kernel_rfl) rfl (by decide) ?_

        have KU := Lib.hid (KX.out.trans (hHeld.2.2.2.2.mono KX.out.size))
        have HNE2 : Hid (∀ j, j < ai + 1 -> (OT.getD j q0m).2.1 ≠ ys) := Lib.hid fun j hj => by
         rcases Nat.lt_or_eq_of_le (Nat.le_of_lt_succ hj) with h | h
         ·exact HNE.out j h
         ·rw [h, HXM.out]; exact fun h2 => of_decide_eq_false HQB.out ((lc_zero _ _).2 h2)
        clear hHeld HS
        go_wp2_with fail
        go_roundw
        case rel => exact ⟨ai + 1, by go_num, by omega, KU, HNE2⟩
        case measure => simp [intOf]; omega
       | true =>
        go_wp2_with fail
        refine Rk.begin (S := fun wS => wS.cell? ⟨gk, ai * 3, none⟩ = some (.int .i64 xk) /\ wS.cell? ⟨gk, ai * 3 + 1, none⟩ = some (.slice xq xs.length xd) /\ wS.cell? ⟨wt, 0, none⟩ = some (.int .i64 K) /\ wS.cell? ⟨wt, 1, none⟩ = some (.slice pt ys.length ct) /\ Below wr.heap.size wr wS) 13 (by kernel_rfl) ⟨a0, a1, b0, b1, Below.drew (Below.refl _ _)⟩ (fun hHeld => ?_)
        refine Rk.takeP (i := 0) (v := ?_) rfl (by kernel_rfl) (by kernel_rfl) (by kernel_rfl) (by kernel_rfl) (fun _ _ _ h => h) (Or.inl ⟨by kernel_rfl, ?_⟩) (by assumption) ?_
        rotate_left
        ·((intro w hSw; go_simp) <;> with_reducible rfl)
        try simp only [Act.put, List.setIfInBounds_toArray, List.set_cons_zero, List.set_cons_succ]
        refine Rk.takeP (i := 1) (v := ?_) rfl (by kernel_rfl) (by kernel_rfl) (by kernel_rfl) (by kernel_rfl) (fun _ _ _ h => h) (Or.inl ⟨by kernel_rfl, ?_⟩) (by assumption) ?_
        rotate_left
        ·((intro w hSw; go_simp) <;> with_reducible rfl)
        try simp only [Act.put, List.setIfInBounds_toArray, List.set_cons_zero, List.set_cons_succ]
        refine Rk.takeP (i := 2) (v := ?_) rfl (by kernel_rfl) (by kernel_rfl) (by kernel_rfl) (by kernel_rfl) (fun _ _ _ h => h) (Or.inl ⟨by kernel_rfl, ?_⟩) (by assumption) ?_
        rotate_left
        ·((intro w hSw; go_simp) <;> with_reducible rfl)
        try simp only [Act.put, List.setIfInBounds_toArray, List.set_cons_zero, List.set_cons_succ]
        refine Rk.takeP (i := 3) (v := ?_) rfl (by kernel_rfl) (by kernel_rfl) (by kernel_rfl) (by kernel_rfl) (fun _ _ _ h => h) (Or.inl ⟨by kernel_rfl, ?_⟩) (by assumption) ?_
        rotate_left
        ·((intro w hSw; go_simp) <;> with_reducible rfl)
        try simp only [Act.put, List.setIfInBounds_toArray, List.set_cons_zero, List.set_cons_succ]
        refine Rk.takeP (i := 4) (v := ?_) rfl (by kernel_rfl) (by kernel_rfl) (by kernel_rfl) (by kernel_rfl) (fun _ _ _ h => h) (Or.inl ⟨by kernel_rfl, ?_⟩) (by assumption) ?_
        rotate_left
        ·((intro w hSw; go_simp) <;> with_reducible rfl)
        try simp only [Act.put, List.setIfInBounds_toArray, List.set_cons_zero, List.set_cons_succ]
        refine Rk.takeP (i := 5) (v := ?_) rfl (by kernel_rfl) (by kernel_rfl) (by kernel_rfl) (by kernel_rfl) (fun _ _ _ h => h) (Or.inl ⟨by kernel_rfl, ?_⟩) (by assumption) ?_
        rotate_left
        ·((intro w hSw; go_simp) <;> with_reducible rfl)
        try simp only [Act.put, List.setIfInBounds_toArray, List.set_cons_zero, List.set_cons_succ]
        refine Rk.takeP (i := 6) (v := ?_) rfl (by kernel_rfl) (by kernel_rfl) (by kernel_rfl) (by kernel_rfl) (fun _ _ _ h => h) (Or.inl ⟨by kernel_rfl, ?_⟩) (by assumption) ?_
        rotate_left
        ·((intro w hSw; go_simp) <;> with_reducible rfl)
        try simp only [Act.put, List.setIfInBounds_toArray, List.set_cons_zero, List.set_cons_succ]
        refine Rk.takeP (i := 7) (v := ?_) rfl (by kernel_rfl) (by kernel_rfl) (by kernel_rfl) (by kernel_rfl) (fun _ _ _ h => h) (Or.inl ⟨by kernel_rfl, ?_⟩) (by assumption) ?_
        rotate_left
        ·((intro w hSw; go_simp) <;> with_reducible rfl)
        try simp only [Act.put, List.setIfInBounds_toArray, List.set_cons_zero, List.set_cons_succ]
        refine Rk.takeP (i := 8) (v := ?_) rfl (by kernel_rfl) (by kernel_rfl) (by kernel_rfl) (by kernel_rfl) (fun _ _ _ h => h) (Or.inl ⟨by kernel_rfl, ?_⟩) (by assumption) ?_
        rotate_left
        ·((intro w hSw; go_simp) <;> with_reducible rfl)
        try simp only [Act.put, List.setIfInBounds_toArray, List.set_cons_zero, List.set_cons_succ]
        refine Rk.take [12, 13] (i := 9) (v := ?_) rfl (by kernel_rfl) (by kernel_rfl) (by kernel_rfl) (by kernel_rfl) (by kernel_rfl) (fun _ _ _ h => h) (Or.inl ⟨by kernel_rfl, ?_⟩) (by assumption) ?_
        rotate_left
        ·((intro w hSw; (try dsimp only at hSw); go_simp) <;> with_reducible rfl)
        try simp only [Act.put, List.setIfInBounds_toArray, List.set_cons_zero, List.set_cons_succ]
        refine Rk.takeP (i := 10) (v := ?_) rfl (by kernel_rfl) (by kernel_rfl) (by kernel_rfl) (by kernel_rfl) (fun _ _ _ h => h) (Or.inl ⟨by kernel_rfl, ?_⟩) (by assumption) ?_
        rotate_left
        ·((intro w hSw; go_simp) <;> with_reducible rfl)
        try simp only [Act.put, List.setIfInBounds_toArray, List.set_cons_zero, List.set_cons_succ]
        refine Rk.take [12, 13] (i := 11) (v := ?_) rfl (by kernel_rfl) (by kernel_rfl) (by kernel_rfl) (by kernel_rfl) (by kernel_rfl) (fun _ _ _ h => h) (Or.inl ⟨by kernel_rfl, ?_⟩) (by assumption) ?_
        rotate_left
        ·((intro w hSw; (try dsimp only at hSw); go_simp) <;> with_reducible rfl)
        try simp only [Act.put, List.setIfInBounds_toArray, List.set_cons_zero, List.set_cons_succ]
        refine Rk.one (i := 12) (by kernel_rfl) rfl (fun KK hK => ?_)
        rw [if_pos (by kernel_rfl)]
        go_simp
        ((with_reducible refine (MN.out _ (Lib.hid (SlM.keep hHeld.2.2.2.2 SMX.out)) (Lib.hid (SlM.keep hHeld.2.2.2.2 SMY.out))).mono ?_); rintro e u ⟨rfl, hb⟩)
        first | (refine hK.out _ _ (fun _ => HS.out _ _ hHeld hb) (fun hHeld => ?_)) | (refine hK.out _ _ (HS.out _ _ hHeld hb) (fun hHeld => ?_)) | (go_wp2_with fail; refine hK.out _ _ (HS.out _ _ hHeld hb) (fun hHeld => ?_))
        clear hK KK
        refine Rk.tail [13, 14] [_, _] (by kernel_rfl) (by kernel_rfl) rfl (by decide) ?_

        obtain ⟨wv, rfl⟩ : ∃ wv, wv = u := ⟨_, rfl⟩
        obtain ⟨a0, a1, b0, b1, KU⟩ := hHeld
        have lgku : gk < wv.heap.size := World.block_lt_of_cell? _ _ a0
        have lwtu : wt < wv.heap.size := World.block_lt_of_cell? _ _ b0
        have a2 := Rg.keep KU (World.block_lt_of_cell? _ _ HA2.out) HA2.out
        have b2 := Rg.keep KU (World.block_lt_of_cell? _ _ HB2.out) HB2.out
        have HOu := Lib.hid (own_belowE HOr.out KU)
        have HSu := Lib.hid (HSr.out.on (K59.below KU))
        have HBu := Lib.hid (HBr.out.trans (KU.mono HBr.out.size))
        have SKu := Lib.hid (SKr.out.on (K59.below KU))
        have hS9 := strE_Q (HSu.out.2 ai (by rw [<- HSu.out.1, HLO.out]; exact hlt)) (show Std wv (K, pt, ys.length, ct, fq) (K, ys, fq) from ⟨rfl, rfl, rfl, SKu.out⟩)
        rw [HXE.out] at hS9
        have hadd := addQ_at (OT := OT) (t := (K, ys, fq)) (k := ai) (by rw [<- HSu.out.1, HLO.out]; exact hlt) HNE.out (by rw [HXM.out]; exact (lc_zero _ _).1 (of_decide_eq_true HQB.out))
        have hin := inv_add HI.out HIL.out HT.out
        rw [hadd] at hin
        obtain ⟨SE, hSE⟩ : ∃ SE, strE (xk, xq, xs.length, xd, xe) (K, pt, ys.length, ct, fq) = SE := ⟨_, rfl⟩
        have RS0 := fun w => rstr (xk, xq, xs.length, xd, xe) (K, pt, ys.length, ct, fq) w
        rw [hSE] at hS9 RS0
        obtain ⟨⟨sk, sq, sn, sd, se⟩, ok⟩ := SE
        unfold agE at RS0
        dsimp only at RS0 hS9
        have RS18 := Lib.hid RS0
        have HST9 := Lib.hid hS9.1
        rw [<- hS9.2] at hin
        have HI2 := Lib.hid hin
        clear RS0 hS9 hSE hadd hin HS
        cases ok
        all_goals
         go_upto_region 18 with (fail)
         have HS : Hid (∀ u u' : World, (u.cell? ⟨gk, ai * 3, none⟩ = some (.int .i64 xk) /\ u.cell? ⟨gk, ai * 3 + 1, none⟩ = some (.slice xq xs.length xd) /\ u.cell? ⟨gk, ai * 3 + 2, none⟩ = some (.bool xe) /\ u.cell? ⟨wt, 0, none⟩ = some (.int .i64 K) /\ u.cell? ⟨wt, 1, none⟩ = some (.slice pt ys.length ct) /\ u.cell? ⟨wt, 2, none⟩ = some (.bool fq) /\ Below wv.heap.size wv u) -> Below u.heap.size u u' -> (u'.cell? ⟨gk, ai * 3, none⟩ = some (.int .i64 xk) /\ u'.cell? ⟨gk, ai * 3 + 1, none⟩ = some (.slice xq xs.length xd) /\ u'.cell? ⟨gk, ai * 3 + 2, none⟩ = some (.bool xe) /\ u'.cell? ⟨wt, 0, none⟩ = some (.int .i64 K) /\ u'.cell? ⟨wt, 1, none⟩ = some (.slice pt ys.length ct) /\ u'.cell? ⟨wt, 2, none⟩ = some (.bool fq) /\ Below wv.heap.size wv u')) := Lib.hid (fun u u' h hb => ⟨Rg.keep hb (World.block_lt_of_cell? _ _ h.1) h.1, Rg.keep hb (World.block_lt_of_cell? _ _ h.2.1) h.2.1, Rg.keep hb (World.block_lt_of_cell? _ _ h.2.2.1) h.2.2.1, Rg.keep hb (World.block_lt_of_cell? _ _ h.2.2.2.1) h.2.2.2.1, Rg.keep hb (World.block_lt_of_cell? _ _ h.2.2.2.2.1) h.2.2.2.2.1, Rg.keep hb (World.block_lt_of_cell? _ _ h.2.2.2.2.2.1) h.2.2.2.2.2.1, h.2.2.2.2.2.2.trans (hb.mono h.2.2.2.2.2.2.size)⟩)
         refine Rk.begin (S := fun wS => wS.cell? ⟨gk, ai * 3, none⟩ = some (.int .i64 xk) /\ wS.cell? ⟨gk, ai * 3 + 1, none⟩ = some (.slice xq xs.length xd) /\ wS.cell? ⟨gk, ai * 3 + 2, none⟩ = some (.bool xe) /\ wS.cell? ⟨wt, 0, none⟩ = some (.int .i64 K) /\ wS.cell? ⟨wt, 1, none⟩ = some (.slice pt ys.length ct) /\ wS.cell? ⟨wt, 2, none⟩ = some (.bool fq) /\ Below wv.heap.size wv wS) 10 (by kernel_rfl) ⟨a0, a1, a2, b0, b1, b2, Below.drew (Below.refl _ _)⟩ (fun hHeld => ?_)
         refine Rk.takeP (i := 0) (v := ?_) rfl (by kernel_rfl) (by kernel_rfl) (by kernel_rfl) (by kernel_rfl) (fun _ _ _ h => h) (Or.inl ⟨by kernel_rfl, ?_⟩) (by assumption) ?_
         rotate_left
         ·((intro w hSw; go_simp) <;> with_reducible rfl)
         try simp only [Act.put, List.setIfInBounds_toArray, List.set_cons_zero, List.set_cons_succ]
         refine Rk.takeP (i := 1) (v := ?_) rfl (by kernel_rfl) (by kernel_rfl) (by kernel_rfl) (by kernel_rfl) (fun _ _ _ h => h) (Or.inl ⟨by kernel_rfl, ?_⟩) (by assumption) ?_
         rotate_left
         ·((intro w hSw; go_simp) <;> with_reducible rfl)
         try simp only [Act.put, List.setIfInBounds_toArray, List.set_cons_zero, List.set_cons_succ]
         refine Rk.takeP (i := 2) (v := ?_) rfl (by kernel_rfl) (by kernel_rfl) (by kernel_rfl) (by kernel_rfl) (fun _ _ _ h => h) (Or.inl ⟨by kernel_rfl, ?_⟩) (by assumption) ?_
         rotate_left
         ·((intro w hSw; go_simp) <;> with_reducible rfl)
         try simp only [Act.put, List.setIfInBounds_toArray, List.set_cons_zero, List.set_cons_succ]
         refine Rk.take [10] (i := 3) (v := ?_) rfl (by kernel_rfl) (by kernel_rfl) (by kernel_rfl) (by kernel_rfl) (by kernel_rfl) (fun _ _ _ h => h) (Or.inl ⟨by kernel_rfl, ?_⟩) (by assumption) ?_
         rotate_left
         ·((intro w hSw; (try dsimp only at hSw); go_simp) <;> with_reducible rfl)
         try simp only [Act.put, List.setIfInBounds_toArray, List.set_cons_zero, List.set_cons_succ]
         refine Rk.take [10] (i := 4) (v := ?_) rfl (by kernel_rfl) (by kernel_rfl) (by kernel_rfl) (by kernel_rfl) (by kernel_rfl) (fun _ _ _ h => h) (Or.inl ⟨by kernel_rfl, ?_⟩) (by assumption) ?_
         rotate_left
         ·((intro w hSw; (try dsimp only at hSw); go_simp) <;> with_reducible rfl)
         try simp only [Act.put, List.setIfInBounds_toArray, List.set_cons_zero, List.set_cons_succ]
         refine Rk.two (i := 5) (j := 9) (by kernel_rfl) rfl rfl (fun KK hK => ?_) (fun KK hK => ?_)
         ·rw [if_pos (by kernel_rfl)]
          go_simp
          ((with_reducible refine (RS18.out _).mono ?_); rintro e uw5 ⟨rfl, hb⟩)
          have hNew := HS.out _ _ hHeld hb
          have hs_uw5 : wv.heap.size <= uw5.heap.size := by have hzz := hb.size; (try simp at hzz); omega
          first | (refine hK.out _ _ (fun _ => hNew) (fun _ => ?_)) | (refine hK.out _ _ hNew (fun _ => ?_)) | (go_wp2_with fail; refine hK.out _ _ hNew (fun _ => ?_))
          replace hHeld := hNew
          clear hNew hb
          clear hK KK
          refine Rk.takeP (i := 6) (v := ?_) rfl (by kernel_rfl) (by kernel_rfl) (by kernel_rfl) (by kernel_rfl) (fun _ _ _ h => h) (Or.inl ⟨by kernel_rfl, ?_⟩) (by assumption) ?_
          rotate_left
          ·((intro w hSw; go_simp) <;> with_reducible rfl)
          try simp only [Act.put, List.setIfInBounds_toArray, List.set_cons_zero, List.set_cons_succ]
          refine Rk.takeP (i := 7) (v := ?_) rfl (by kernel_rfl) (by kernel_rfl) (by kernel_rfl) (by kernel_rfl) (fun _ _ _ h => h) (Or.inl ⟨by kernel_rfl, ?_⟩) (by assumption) ?_
          rotate_left
          ·((intro w hSw; go_simp) <;> with_reducible rfl)
          try simp only [Act.put, List.setIfInBounds_toArray, List.set_cons_zero, List.set_cons_succ]
          refine Rk.takeP (i := 8) (v := ?_) rfl (by kernel_rfl) (by kernel_rfl) (by kernel_rfl) (by kernel_rfl) (fun _ _ _ h => h) (Or.inl ⟨by kernel_rfl, ?_⟩) (by assumption) ?_
          rotate_left
          ·((intro w hSw; go_simp) <;> with_reducible rfl)
          try simp only [Act.put, List.setIfInBounds_toArray, List.set_cons_zero, List.set_cons_succ]
          refine Rk.one (i := 9) (by kernel_rfl) rfl (fun KK hK => ?_)
          rw [if_pos (by kernel_rfl)]
          go_simp
          have hNew := HS.out _ _ hHeld ((Below.refl _ _).alloc (Nat.le_refl _) (Obj.cells #[Value.int .i64 0, Value.slice none 0 0, Value.bool false] 36))
          refine hK.out _ _ hNew (fun _ => ?_)
          replace hHeld := hNew
          clear hNew
          clear hK KK
          refine Rk.tail [10, 11] [_, _] (by kernel_rfl) (by kernel_rfl) rfl (by decide) ?_
          obtain ⟨g0, g1, g2, h0, h1, h2, KG⟩ := hHeld
          have m0 : (uw5.alloc (Obj.cells #[Value.int .i64 0, Value.slice none 0 0, Value.bool false] 36)).cell? ⟨uw5.heap.size, 0, none⟩ = some (.int .i64 0) := by go_cell
          have fm0 : (uw5.alloc (Obj.cells #[Value.int .i64 0, Value.slice none 0 0, Value.bool false] 36)).frozen? ⟨uw5.heap.size, 0, none⟩ = false := by simp only [frozen?_alloc_cells]; exact Rg.notFrozen (Nat.le_refl _)
          have m1 : (uw5.alloc (Obj.cells #[Value.int .i64 0, Value.slice none 0 0, Value.bool false] 36)).cell? ⟨uw5.heap.size, 1, none⟩ = some (.slice none 0 0) := by go_cell
          have fm1 : (uw5.alloc (Obj.cells #[Value.int .i64 0, Value.slice none 0 0, Value.bool false] 36)).frozen? ⟨uw5.heap.size, 1, none⟩ = false := by simp only [frozen?_alloc_cells]; exact Rg.notFrozen (Nat.le_refl _)
          have m2 : (uw5.alloc (Obj.cells #[Value.int .i64 0, Value.slice none 0 0, Value.bool false] 36)).cell? ⟨uw5.heap.size, 2, none⟩ = some (.bool false) := by go_cell
          have fm2 : (uw5.alloc (Obj.cells #[Value.int .i64 0, Value.slice none 0 0, Value.bool false] 36)).frozen? ⟨uw5.heap.size, 2, none⟩ = false := by simp only [frozen?_alloc_cells]; exact Rg.notFrozen (Nat.le_refl _)
          generalize (uw5.alloc (Obj.cells #[Value.int .i64 0, Value.slice none 0 0, Value.bool false] 36)) = gw at *
          have lm : uw5.heap.size < gw.heap.size := World.block_lt_of_cell? _ _ m0
          have lw : wv.heap.size <= uw5.heap.size := by omega
          have ne0 : uw5.heap.size ≠ gk := by omega
          have ne1 : uw5.heap.size ≠ wt := by omega
          have lo0 : gk < gw.heap.size := by omega
          have lo1 : wt < gw.heap.size := by omega
          go_upto_region 19 with (fail)
          have g0 : (((gw.setCell ⟨uw5.heap.size, 0, none⟩ (.int .i64 sk)).setCell ⟨uw5.heap.size, 1, none⟩ (.slice sq sn sd)).setCell ⟨uw5.heap.size, 2, none⟩ (.bool se)).cell? ⟨gk, ai * 3, none⟩ = some (.int .i64 xk) := far3 ne0 g0
          have g1 : (((gw.setCell ⟨uw5.heap.size, 0, none⟩ (.int .i64 sk)).setCell ⟨uw5.heap.size, 1, none⟩ (.slice sq sn sd)).setCell ⟨uw5.heap.size, 2, none⟩ (.bool se)).cell? ⟨gk, ai * 3 + 1, none⟩ = some (.slice xq xs.length xd) := far3 ne0 g1
          have g2 : (((gw.setCell ⟨uw5.heap.size, 0, none⟩ (.int .i64 sk)).setCell ⟨uw5.heap.size, 1, none⟩ (.slice sq sn sd)).setCell ⟨uw5.heap.size, 2, none⟩ (.bool se)).cell? ⟨gk, ai * 3 + 2, none⟩ = some (.bool xe) := far3 ne0 g2
          have h0 : (((gw.setCell ⟨uw5.heap.size, 0, none⟩ (.int .i64 sk)).setCell ⟨uw5.heap.size, 1, none⟩ (.slice sq sn sd)).setCell ⟨uw5.heap.size, 2, none⟩ (.bool se)).cell? ⟨wt, 0, none⟩ = some (.int .i64 K) := far3 ne1 h0
          have h1 : (((gw.setCell ⟨uw5.heap.size, 0, none⟩ (.int .i64 sk)).setCell ⟨uw5.heap.size, 1, none⟩ (.slice sq sn sd)).setCell ⟨uw5.heap.size, 2, none⟩ (.bool se)).cell? ⟨wt, 1, none⟩ = some (.slice pt ys.length ct) := far3 ne1 h1
          have h2 : (((gw.setCell ⟨uw5.heap.size, 0, none⟩ (.int .i64 sk)).setCell ⟨uw5.heap.size, 1, none⟩ (.slice sq sn sd)).setCell ⟨uw5.heap.size, 2, none⟩ (.bool se)).cell? ⟨wt, 2, none⟩ = some (.bool fq) := far3 ne1 h2
          have hst := st3 (x := .int .i64 sk) (y := .slice sq sn sd) (z := .bool se) m0 m1 m2
          obtain ⟨s0, s1, s2⟩ := hst
          have KS : Below wv.heap.size wv (((gw.setCell ⟨uw5.heap.size, 0, none⟩ (.int .i64 sk)).setCell ⟨uw5.heap.size, 1, none⟩ (.slice sq sn sd)).setCell ⟨uw5.heap.size, 2, none⟩ (.bool se)) := (Below.setCell (Below.setCell (Below.setCell KG (by dsimp only; omega) _) (by dsimp only; omega) _) (by dsimp only; omega) _)
          have lm : uw5.heap.size < (((gw.setCell ⟨uw5.heap.size, 0, none⟩ (.int .i64 sk)).setCell ⟨uw5.heap.size, 1, none⟩ (.slice sq sn sd)).setCell ⟨uw5.heap.size, 2, none⟩ (.bool se)).heap.size := World.block_lt_of_cell? _ _ s0
          have lo0 : gk < (((gw.setCell ⟨uw5.heap.size, 0, none⟩ (.int .i64 sk)).setCell ⟨uw5.heap.size, 1, none⟩ (.slice sq sn sd)).setCell ⟨uw5.heap.size, 2, none⟩ (.bool se)).heap.size := by simp; omega
          have lo1 : wt < (((gw.setCell ⟨uw5.heap.size, 0, none⟩ (.int .i64 sk)).setCell ⟨uw5.heap.size, 1, none⟩ (.slice sq sn sd)).setCell ⟨uw5.heap.size, 2, none⟩ (.bool se)).heap.size := by simp; omega
          clear KG m0 fm0 m1 fm1 m2 fm2
          generalize (((gw.setCell ⟨uw5.heap.size, 0, none⟩ (.int .i64 sk)).setCell ⟨uw5.heap.size, 1, none⟩ (.slice sq sn sd)).setCell ⟨uw5.heap.size, 2, none⟩ (.bool se)) = gs at *
          have O9 := own_belowE HOu.out KS
          have lgk9 : gk < gs.heap.size := World.block_lt_of_cell? _ _ g0
          have fz0 : gs.frozen? ⟨gk, ai * 3, none⟩ = false := O9.frozenAt _
          have fz1 : gs.frozen? ⟨gk, ai * 3 + 1, none⟩ = false := O9.frozenAt _
          have fz2 : gs.frozen? ⟨gk, ai * 3 + 2, none⟩ = false := O9.frozenAt _
          have HW := Lib.hid (set3_world (m := ai) (k := sk) (q := sq) (a := sn) (d := sd) (e := se) hbg O9 (by have := HLO.out; omega))
          have HB9 := Lib.hid (HBu.out.trans (KS.mono HBu.out.size))
          have HK9 := Lib.hid (K59.below KS)
          have hbs := KS.size
          clear O9 KS HS
          go_wp2_with fail
          exact ⟨⟨i + 1, some ⟨gk, 0, none⟩, kc, OL.set ai (sk, sq, sn, sd, se), OT.set ai (strQ (OT.getD ai q0m) (K, ys, fq)).1, _, by rw [List.length_set, HLO.out], rfl, by go_num, by omega, by rw [List.length_set, HLO.out]; omega, by (simp; omega), Lib.hid (by rw [List.length_set, HLO.out]; exact HW.out.1), Lib.hid ((HSu.out.on (HK9.out.trans HW.out.2.1)).set (HST9.out.on (HK9.out.trans HW.out.2.1))), HI2, HFn, Lib.hid (HB9.out.trans (HW.out.2.2.mono (Nat.le_refl _)))⟩, by simp [intOf]; omega⟩
         ·rw [if_pos (by kernel_rfl)]
          go_simp
          have hNew := HS.out _ _ hHeld ((Below.refl _ _).alloc (Nat.le_refl _) (Obj.cells #[Value.int .i64 0, Value.slice none 0 0, Value.bool false] 36))
          refine hK.out _ _ hNew (fun _ => ?_)
          replace hHeld := hNew
          clear hNew
          replace hHeld : (wv.alloc (Obj.cells #[Value.int .i64 0, Value.slice none 0 0, Value.bool false] 36)).drew.cell? ⟨gk, ai * 3, none⟩ = some (.int .i64 xk) /\ (wv.alloc (Obj.cells #[Value.int .i64 0, Value.slice none 0 0, Value.bool false] 36)).drew.cell? ⟨gk, ai * 3 + 1, none⟩ = some (.slice xq xs.length xd) /\ (wv.alloc (Obj.cells #[Value.int .i64 0, Value.slice none 0 0, Value.bool false] 36)).drew.cell? ⟨gk, ai * 3 + 2, none⟩ = some (.bool xe) /\ (wv.alloc (Obj.cells #[Value.int .i64 0, Value.slice none 0 0, Value.bool false] 36)).drew.cell? ⟨wt, 0, none⟩ = some (.int .i64 K) /\ (wv.alloc (Obj.cells #[Value.int .i64 0, Value.slice none 0 0, Value.bool false] 36)).drew.cell? ⟨wt, 1, none⟩ = some (.slice pt ys.length ct) /\ (wv.alloc (Obj.cells #[Value.int .i64 0, Value.slice none 0 0, Value.bool false] 36)).drew.cell? ⟨wt, 2, none⟩ = some (.bool fq) /\ Below wv.heap.size wv (wv.alloc (Obj.cells #[Value.int .i64 0, Value.slice none 0 0, Value.bool false] 36)).drew := hHeld
          clear hK KK
          refine Rk.one (i := 5) (by kernel_rfl) rfl (fun KK hK => ?_)
          rw [if_pos (by kernel_rfl)]
          go_simp
          ((with_reducible refine (RS18.out _).mono ?_); rintro e uw5 ⟨rfl, hb⟩)
          have hNew := HS.out _ _ hHeld hb
          have hs_uw5 : wv.heap.size <= uw5.heap.size := by have hzz := hb.size; (try simp at hzz); omega
          have m0 : uw5.cell? ⟨wv.heap.size, 0, none⟩ = some (.int .i64 0) := Rg.keep hb (by simp) (by go_cell)
          have fm0 : uw5.frozen? ⟨wv.heap.size, 0, none⟩ = false := Rg.keepF hb (by simp) (by show (wv.drew.alloc (Obj.cells #[Value.int .i64 0, Value.slice none 0 0, Value.bool false] 36)).frozen? ⟨wv.drew.heap.size, 0, none⟩ = false; simp only [frozen?_alloc_cells]; exact Rg.notFrozen (Nat.le_refl _))
          have m1 : uw5.cell? ⟨wv.heap.size, 1, none⟩ = some (.slice none 0 0) := Rg.keep hb (by simp) (by go_cell)
          have fm1 : uw5.frozen? ⟨wv.heap.size, 1, none⟩ = false := Rg.keepF hb (by simp) (by show (wv.drew.alloc (Obj.cells #[Value.int .i64 0, Value.slice none 0 0, Value.bool false] 36)).frozen? ⟨wv.drew.heap.size, 1, none⟩ = false; simp only [frozen?_alloc_cells]; exact Rg.notFrozen (Nat.le_refl _))
          have m2 : uw5.cell? ⟨wv.heap.size, 2, none⟩ = some (.bool false) := Rg.keep hb (by simp) (by go_cell)
          have fm2 : uw5.frozen? ⟨wv.heap.size, 2, none⟩ = false := Rg.keepF hb (by simp) (by show (wv.drew.alloc (Obj.cells #[Value.int .i64 0, Value.slice none 0 0, Value.bool false] 36)).frozen? ⟨wv.drew.heap.size, 2, none⟩ = false; simp only [frozen?_alloc_cells]; exact Rg.notFrozen (Nat.le_refl _))
          first | (refine hK.out _ _ (fun _ => hNew) (fun _ => ?_)) | (refine hK.out _ _ hNew (fun _ => ?_)) | (go_wp2_with fail; refine hK.out _ _ hNew (fun _ => ?_))
          replace hHeld := hNew
          clear hNew hb
          clear hK KK
          refine Rk.takeP (i := 6) (v := ?_) rfl (by kernel_rfl) (by kernel_rfl) (by kernel_rfl) (by kernel_rfl) (fun _ _ _ h => h) (Or.inl ⟨by kernel_rfl, ?_⟩) (by assumption) ?_
          rotate_left
          ·((intro w hSw; go_simp) <;> with_reducible rfl)
          try simp only [Act.put, List.setIfInBounds_toArray, List.set_cons_zero, List.set_cons_succ]
          refine Rk.takeP (i := 7) (v := ?_) rfl (by kernel_rfl) (by kernel_rfl) (by kernel_rfl) (by kernel_rfl) (fun _ _ _ h => h) (Or.inl ⟨by kernel_rfl, ?_⟩) (by assumption) ?_
          rotate_left
          ·((intro w hSw; go_simp) <;> with_reducible rfl)
          try simp only [Act.put, List.setIfInBounds_toArray, List.set_cons_zero, List.set_cons_succ]
          refine Rk.takeP (i := 8) (v := ?_) rfl (by kernel_rfl) (by kernel_rfl) (by kernel_rfl) (by kernel_rfl) (fun _ _ _ h => h) (Or.inl ⟨by kernel_rfl, ?_⟩) (by assumption) ?_
          rotate_left
          ·((intro w hSw; go_simp) <;> with_reducible rfl)
          try simp only [Act.put, List.setIfInBounds_toArray, List.set_cons_zero, List.set_cons_succ]
          refine Rk.tail [10, 11] [_, _] (by kernel_rfl) (by kernel_rfl) rfl (by decide) ?_
          obtain ⟨g0, g1, g2, h0, h1, h2, KG⟩ := hHeld
          have lm : wv.heap.size < uw5.heap.size := World.block_lt_of_cell? _ _ m0
          have lw : wv.heap.size <= wv.heap.size := by omega
          have ne0 : wv.heap.size ≠ gk := by omega
          have ne1 : wv.heap.size ≠ wt := by omega
          have lo0 : gk < uw5.heap.size := by omega
          have lo1 : wt < uw5.heap.size := by omega
          go_upto_region 19 with (fail)
          have g0 : (((uw5.setCell ⟨wv.heap.size, 0, none⟩ (.int .i64 sk)).setCell ⟨wv.heap.size, 1, none⟩ (.slice sq sn sd)).setCell ⟨wv.heap.size, 2, none⟩ (.bool se)).cell? ⟨gk, ai * 3, none⟩ = some (.int .i64 xk) := far3 ne0 g0
          have g1 : (((uw5.setCell ⟨wv.heap.size, 0, none⟩ (.int .i64 sk)).setCell ⟨wv.heap.size, 1, none⟩ (.slice sq sn sd)).setCell ⟨wv.heap.size, 2, none⟩ (.bool se)).cell? ⟨gk, ai * 3 + 1, none⟩ = some (.slice xq xs.length xd) := far3 ne0 g1
          have g2 : (((uw5.setCell ⟨wv.heap.size, 0, none⟩ (.int .i64 sk)).setCell ⟨wv.heap.size, 1, none⟩ (.slice sq sn sd)).setCell ⟨wv.heap.size, 2, none⟩ (.bool se)).cell? ⟨gk, ai * 3 + 2, none⟩ = some (.bool xe) := far3 ne0 g2
          have h0 : (((uw5.setCell ⟨wv.heap.size, 0, none⟩ (.int .i64 sk)).setCell ⟨wv.heap.size, 1, none⟩ (.slice sq sn sd)).setCell ⟨wv.heap.size, 2, none⟩ (.bool se)).cell? ⟨wt, 0, none⟩ = some (.int .i64 K) := far3 ne1 h0
          have h1 : (((uw5.setCell ⟨wv.heap.size, 0, none⟩ (.int .i64 sk)).setCell ⟨wv.heap.size, 1, none⟩ (.slice sq sn sd)).setCell ⟨wv.heap.size, 2, none⟩ (.bool se)).cell? ⟨wt, 1, none⟩ = some (.slice pt ys.length ct) := far3 ne1 h1
          have h2 : (((uw5.setCell ⟨wv.heap.size, 0, none⟩ (.int .i64 sk)).setCell ⟨wv.heap.size, 1, none⟩ (.slice sq sn sd)).setCell ⟨wv.heap.size, 2, none⟩ (.bool se)).cell? ⟨wt, 2, none⟩ = some (.bool fq) := far3 ne1 h2
          have hst := st3 (x := .int .i64 sk) (y := .slice sq sn sd) (z := .bool se) m0 m1 m2
          obtain ⟨s0, s1, s2⟩ := hst
          have KS : Below wv.heap.size wv (((uw5.setCell ⟨wv.heap.size, 0, none⟩ (.int .i64 sk)).setCell ⟨wv.heap.size, 1, none⟩ (.slice sq sn sd)).setCell ⟨wv.heap.size, 2, none⟩ (.bool se)) := (Below.setCell (Below.setCell (Below.setCell KG (by dsimp only; omega) _) (by dsimp only; omega) _) (by dsimp only; omega) _)
          have lm : wv.heap.size < (((uw5.setCell ⟨wv.heap.size, 0, none⟩ (.int .i64 sk)).setCell ⟨wv.heap.size, 1, none⟩ (.slice sq sn sd)).setCell ⟨wv.heap.size, 2, none⟩ (.bool se)).heap.size := World.block_lt_of_cell? _ _ s0
          have lo0 : gk < (((uw5.setCell ⟨wv.heap.size, 0, none⟩ (.int .i64 sk)).setCell ⟨wv.heap.size, 1, none⟩ (.slice sq sn sd)).setCell ⟨wv.heap.size, 2, none⟩ (.bool se)).heap.size := by simp; omega
          have lo1 : wt < (((uw5.setCell ⟨wv.heap.size, 0, none⟩ (.int .i64 sk)).setCell ⟨wv.heap.size, 1, none⟩ (.slice sq sn sd)).setCell ⟨wv.heap.size, 2, none⟩ (.bool se)).heap.size := by simp; omega
          clear KG m0 fm0 m1 fm1 m2 fm2
          generalize (((uw5.setCell ⟨wv.heap.size, 0, none⟩ (.int .i64 sk)).setCell ⟨wv.heap.size, 1, none⟩ (.slice sq sn sd)).setCell ⟨wv.heap.size, 2, none⟩ (.bool se)) = gs at *
          have O9 := own_belowE HOu.out KS
          have lgk9 : gk < gs.heap.size := World.block_lt_of_cell? _ _ g0
          have fz0 : gs.frozen? ⟨gk, ai * 3, none⟩ = false := O9.frozenAt _
          have fz1 : gs.frozen? ⟨gk, ai * 3 + 1, none⟩ = false := O9.frozenAt _
          have fz2 : gs.frozen? ⟨gk, ai * 3 + 2, none⟩ = false := O9.frozenAt _
          have HW := Lib.hid (set3_world (m := ai) (k := sk) (q := sq) (a := sn) (d := sd) (e := se) hbg O9 (by have := HLO.out; omega))
          have HB9 := Lib.hid (HBu.out.trans (KS.mono HBu.out.size))
          have HK9 := Lib.hid (K59.below KS)
          have hbs := KS.size
          clear O9 KS HS
          go_wp2_with fail
          exact ⟨⟨i + 1, some ⟨gk, 0, none⟩, kc, OL.set ai (sk, sq, sn, sd, se), OT.set ai (strQ (OT.getD ai q0m) (K, ys, fq)).1, _, by rw [List.length_set, HLO.out], rfl, by go_num, by omega, by rw [List.length_set, HLO.out]; omega, by (simp; omega), Lib.hid (by rw [List.length_set, HLO.out]; exact HW.out.1), Lib.hid ((HSu.out.on (HK9.out.trans HW.out.2.1)).set (HST9.out.on (HK9.out.trans HW.out.2.1))), HI2, HFn, Lib.hid (HB9.out.trans (HW.out.2.2.mono (Nat.le_refl _)))⟩, by simp [intOf]; omega⟩

      ·obtain rfl : ai = lo := by omega
       have m1 : ¬ (ai : Int) < ai := by omega
       have m2 : decide ((ai : Int) < ai) = false := by simp
       have m3 : ((ai : Int) == ai) = true := by simp
       go_wp2_with fail
       go_quiet (fail)

       have KQ : Below wr.heap.size wr (wr.drewN nq) := (Below.refl _ _).trans ⟨rfl, rfl, rfl, Nat.le_refl _, fun _ _ => rfl⟩
       have HOq := Lib.hid (own_belowE HOr.out KQ)
       have HSq := Lib.hid (HSr.out.on (K59.below KQ))
       have HBq := Lib.hid (HBr.out.trans (KQ.mono HBr.out.size))
       have SKq := Lib.hid (SKr.out.on (K59.below KQ))
       have b0 := Rg.keep KQ lwt HB0.out
       have b1 := Rg.keep KQ lwt HB1.out
       have b2 := Rg.keep KQ lwt HB2.out
       clear KQ
       generalize wr.drewN nq = wq at *
       have lwq : wt < wq.heap.size := World.block_lt_of_cell? _ _ b0
       have hin := inv_add HI.out HIL.out HT.out
       rw [addQ_new (OT := OT) (t := (K, ys, fq)) (by rw [<- HSq.out.1]; intro j hj; exact HNE.out j (by rw [HLO.out] at hj; exact hj))] at hin
       have HI2 := Lib.hid hin
       clear hin
       obtain ⟨i0, hi, hz0, hz1, hz2⟩ := info_parts info36
       go_wp2_with (at_builtin; refine wpList_append_own _ rfl _ _ 30 rfl w.heap.size 36 i0 (.agg #[.int .i64 0, .slice none 0 0, .bool false]) 3 40 Tryd.underlying30 hi hz0 hz1 hz2 rfl (by decide) _ _ _ rfl (HOq.out.alloc _) ⟨wq.heap.size, 0, none⟩ 1 1 [.int .i64 K, .slice pt ys.length ct, .bool fq] rfl rfl ?_ ?_ ?_ ?_ ?_ ?_)
       all_goals first
        | (intro q x hx; rcases q with _ | _ | _ | q; (cases hx; go_cell; done); (cases hx; go_cell; done); (cases hx; go_cell; done); (simp at hx; done))
        | (intro x hx; simp at hx; rcases hx with rfl | rfl | rfl <;> rfl)
        | exact ⟨rfl, rfl, rfl⟩
        | (unfold maxLen; omega)
        | omega
        | (have := HBq.out.size; simp; omega)
        | skip
       intro v' w4 hown' hgrow _
       have hK4 := Lib.hid ((K59.below ((Below.refl _ _).alloc (Nat.le_refl _) (Obj.cells #[Value.int .i64 K, Value.slice pt ys.length ct, Value.bool fq] 36) : Below wq.heap.size wq (wq.alloc (Obj.cells #[Value.int .i64 K, Value.slice pt ys.length ct, Value.bool fq] 36)))).trans (K59.own (HOq.out.alloc _) (by decide) hgrow))
       have hB4 := Lib.hid ((HBq.out.alloc HBq.out.size (Obj.cells #[Value.int .i64 K, Value.slice pt ys.length ct, Value.bool fq] 36)).grown hgrow (by have := HBq.out.size; simp; omega) (fun k hk => ((HOq.out.alloc (Obj.cells #[Value.int .i64 K, Value.slice pt ys.length ct, Value.bool fq] 36)).lt k hk).1))
       obtain ⟨q', c', rfl⟩ := own_slice hown'
       have hO4 := Lib.hid hown'
       clear hown' hgrow hi hz0 hz1 hz2
       go_wp2_with fail
       exact ⟨⟨i + 1, q', c', OL ++ [(K, pt, ys.length, ct, fq)], OT ++ [(K, ys, fq)], _, by rw [List.length_append, HLO.out]; rfl, rfl, by go_num, by omega, by rw [List.length_append, HLO.out]; simp; omega, hB4.out.size, Lib.hid (by rw [rowE_snoc, List.length_append, HLO.out]; exact hO4.out), Lib.hid ((HSq.out.on hK4.out).snoc ⟨rfl, rfl, rfl, SKq.out.on hK4.out⟩), HI2, HFn, hB4⟩, by simp [intOf]; omega⟩

    ·have HFn : Hid (firF (l.drop (i + 1)) (i + 1) = RES) := Lib.hid (by simpa using hE1)
     have HI2 := Lib.hid (inv_drop HI.out HIL.out hT (by decide))
     clear hE1 hT
     go_wp2_with (go_at_call 29; (with_reducible refine (TT.out q d _ HMf.out).mono ?_); rintro e w1 ⟨pt, ct, rfl, S1, hfr, hb⟩; (try unfold Cv); dsimp only at S1 hfr ⊢; have SKt := Lib.hid (show SlK w1 pt ys from ⟨S1, hfr⟩); have KB1 := Lib.hid hb; have lb1 := hb.size; clear hb S1 hfr)
     have KO : Hid (Below wr.heap.size wr (w1.alloc (Obj.cells #[Value.int .i64 K, Value.slice pt ys.length ct, Value.bool fq] 36))) := Lib.hid (KB1.out.alloc lb1 (Obj.cells #[Value.int .i64 K, Value.slice pt ys.length ct, Value.bool fq] 36))
     have HOz := Lib.hid (own_belowE HO.out KO.out)
     have HSz := Lib.hid (HST.out.on (K59.below KO.out))
     have HBz := Lib.hid (HBW.out.trans (KO.out.mono HBW.out.size))
     clear KB1
     go_roundw
     case rel => exact ⟨i + 1, kq, kc, OL, OT, _, by rw [HLO.out], rfl, by go_num, by omega, by rw [HLO.out]; omega, HBz.out.size, Lib.hid (by rw [HLO.out]; exact HOz.out), HSz, HI2, HFn, HBz⟩
     case measure => simp [intOf]; omega
    ·have HFn : Hid (firF (l.drop (i + 1)) (i + 1) = RES) := Lib.hid (by simpa using hE1)
     have HI2 := Lib.hid (inv_drop HI.out HIL.out hT (by decide))
     clear hE1 hT
     go_wp2_with (go_at_call 29; (with_reducible refine (TT.out q d _ HMf.out).mono ?_); rintro e w1 ⟨pt, ct, rfl, S1, hfr, hb⟩; (try unfold Cv); dsimp only at S1 hfr ⊢; have SKt := Lib.hid (show SlK w1 pt ys from ⟨S1, hfr⟩); have KB1 := Lib.hid hb; have lb1 := hb.size; clear hb S1 hfr)
     have KO : Hid (Below wr.heap.size wr (w1.alloc (Obj.cells #[Value.int .i64 K, Value.slice pt ys.length ct, Value.bool fq] 36))) := Lib.hid (KB1.out.alloc lb1 (Obj.cells #[Value.int .i64 K, Value.slice pt ys.length ct, Value.bool fq] 36))
     have HOz := Lib.hid (own_belowE HO.out KO.out)
     have HSz := Lib.hid (HST.out.on (K59.below KO.out))
     have HBz := Lib.hid (HBW.out.trans (KO.out.mono HBW.out.size))
     clear KB1
     go_roundw
     case rel => exact ⟨i + 1, kq, kc, OL, OT, _, by rw [HLO.out], rfl, by go_num, by omega, by rw [HLO.out]; omega, HBz.out.size, Lib.hid (by rw [HLO.out]; exact HOz.out), HSz, HI2, HFn, HBz⟩
     case measure => simp [intOf]; omega
    ·have HE2 : Hid (RES = (i, er)) := Lib.hid (by rw [if_pos her] at hE1; exact hE1.symm)
     have her2 : (er == 0) = false := by rw [beq_eq_false_iff_ne]; exact her
     have her3 : (er != 0) = true := by simpa using her
     have HZN : Hid (NzR l ([], false, er)) := Lib.hid (inv_err hl9.out (HR0.out.trans HE2.out) her)
     clear hE1 hT
     go_wp2_with (go_at_call 29; (with_reducible refine (TT.out q d _ HMf.out).mono ?_); rintro e w1 ⟨pt, ct, rfl, S1, hfr, hb⟩; (try unfold Cv); dsimp only at S1 hfr ⊢; have SKt := Lib.hid (show SlK w1 pt ys from ⟨S1, hfr⟩); have KB1 := Lib.hid hb; have lb1 := hb.size; clear hb S1 hfr)
     refine bodyPost_ret (v := .tuple #[.slice none 0 0, .bool false, .int .i64 er]) (by simp [results, Tryd.results37, go_sem]) rfl ?_
     exact ⟨([], false, er), none, 0, HZN.out, rfl, fun i hi => absurd hi (Nat.not_lt_zero _), Nat.le_refl _, HBW.out.trans ((KB1.out.alloc lb1 _).mono HBW.out.size)⟩
  ·obtain rfl : i = n := by omega
   have her : (firF l 0).2 = 0 := by
    have h := HF.out
    rw [List.drop_of_length_le (by rw [HN.out]; exact Nat.le_refl _)] at h
    rw [HR0.out, <- h]
    rfl
   have HI9 : Hid (InvQ l l.length OT s) := Lib.hid (by rw [HN.out]; exact HI.out)
   cases s
   ·have HZN := Lib.hid (inv_no hl9.out her HI9.out)
    clear her
    go_wp2_with fail
    refine bodyPost_ret (v := .tuple #[.slice none 0 0, .bool false, .int .i64 0]) (by simp [results, Tryd.results37, go_sem]) rfl ?_
    exact ⟨([], false, 0), none, 0, HZN.out, rfl, fun i hi => absurd hi (Nat.not_lt_zero _), Nat.le_refl _, HBW.out⟩
   ·have HZY := Lib.hid fun T P S => inv_yes (T := T) hl9.out her HI9.out P S
    have HTL : Hid (∀ t ∈ OT, t.2.1.length <= maxLen) := Lib.hid fun t ht => by
     obtain ⟨so, _, hc⟩ := HI.out
     have h1 := hc.sub t ht
     obtain ⟨f, hf, hk⟩ := List.mem_filterMap.1 h1
     have h3 := HTQ.out f (List.mem_of_mem_take hf)
     unfold keepF at hk
     split at hk
     ·cases hk; exact h3
     ·cases hk
    clear her
    go_wp2_with (go_at_call 78; (with_reducible refine (SO.out kq kc lo OL OT _ (by omega) HLO HO HST HTL hbw).mono ?_); rintro e w2 ⟨rfl, B2, L', T', hl', hS', hP, hSr, hO'⟩; have HZ := Lib.hid (HZY.out T' hP hSr); have HQ := Lib.hid (SlQ_of (by rw [hl']; exact hO') hS' hl'.symm); have HB2 := Lib.hid (HBW.out.trans B2); clear B2 hl' hS' hP hSr hO')
    refine bodyPost_ret (v := .tuple #[.slice kq lo kc, .bool true, .int .i64 0]) (by simp [results, Tryd.results37, go_sem]) rfl ?_
    exact ⟨(T', true, 0), kq, kc, HZ.out, by rw [HQ.out.2.1], HQ.out.1, by rw [HQ.out.2.1]; exact HQ.out.2.2, HB2.out⟩
end Go.Proofs.YtbicmlkjonaccaaDoor.Ln
