/- The cache in memory; Remove, Stats, Keys, New. -/
import Derived.Test.YtlmbjipcdhenlaaC2p
import Derived.Laws.AppendOwn
import Derived.Laws.OwnMore
import Derived.Carry
import Derived.OwnWalk
namespace Go.Proofs.Ytlmbjipcdhenlaa.Cp
open Go.ChangeShapes Go.WideShapes Go.ChangeAt Go.RowKit
open Go.Proofs.Ytlmbjipcdhenlaa.Ca
set_option linter.unusedVariables false
set_option linter.unusedSimpArgs false
theorem CA.eraseR {w w1 w2 : World} {b base r : Nat} {most : Int} {X : List (En (ByteArray × Int))} {hits misses nb i : Nat} {x : En (ByteArray × Int)} {N O : Nat → Option Nat} {h t : Option Nat} (C : CA w b base most X hits misses nb) (hr : w.cell? ⟨b, 1, none⟩ = some (.map (some r))) (hi : X[i]? = some x) (hF : Fr b (X.map (·.1)) w w1) (H : HL w1 b (X.map (·.1)) N O h t)
    (hc : Chain ((X.eraseIdx i).map (·.1)) N O) (hh : h = ((X.eraseIdx i).map (·.1)).head?) (ht : t = ((X.eraseIdx i).map (·.1)).getLast?) (hm : MP w2 r (fun k => if k = x.2.1 then none else Ca.look X k) (X.length - 1) nb) (hg : w1.grownBy w2 (some r)) : CA w2 b base most (X.eraseIdx i) hits misses nb ∧ Below base w w2 := by
  obtain ⟨r', h1, h2, h3⟩ := C.mp
  rw [hr] at h1
  cases h1
  have hrb : b ≠ r := h3.ne hr
  have hrD : ∀ y ∈ X.map (·.1), y ≠ r := fun y hy e => by
    obtain ⟨x, hx, rfl⟩ := List.mem_map.1 hy
    exact h3.ne (C.kv x hx).1 e
  have lt1 : ∀ {x o v}, w1.cell? ⟨x, o, none⟩ = some v → x < w1.heap.size := fun h => by have := World.block_lt_of_cell? w1 _ h; simpa using this
  have kb : w2.heap[b]? = w1.heap[b]? := hg.block b (lt1 H.ch) (by simpa using hrb)
  have kx : ∀ x ∈ X.map (·.1), w2.heap[x]? = w1.heap[x]? := fun x hx => hg.block x (lt1 (H.n x hx)) (by simpa using hrD x hx)
  subst hh ht
  have hl := lt_of hi
  have hsub : ∀ y ∈ (X.eraseIdx i).map (·.1), y ∈ X.map (·.1) := fun y hy => by obtain ⟨z, hz, rfl⟩ := List.mem_map.1 hy; exact List.mem_map_of_mem (mem_erase hz)
  refine ⟨⟨(World.cell?_of_block (a := ⟨b, 0, none⟩) kb).trans ((hF.own 0 (by decide) (by decide)).trans C.m0), C.mpos, ⟨r, (World.cell?_of_block (a := ⟨b, 1, none⟩) kb).trans ((hF.own 1 (by decide) (by decide)).trans hr), h2, ?_⟩, (World.cell?_of_block (a := ⟨b, 4, none⟩) kb).trans ((hF.own 4 (by decide) (by decide)).trans C.hc), (World.cell?_of_block (a := ⟨b, 5, none⟩) kb).trans ((hF.own 5 (by decide) (by decide)).trans C.mc),
    (World.frozen?_of_block (a := ⟨b, 4, none⟩) kb).trans ((hF.fz _).trans C.zh), (World.frozen?_of_block (a := ⟨b, 5, none⟩) kb).trans ((hF.fz _).trans C.zm), ⟨N, O, (H.grown hg hrb hrD).sub hsub, hc⟩, fun y hy => ?_, ?_, keys_erase C.nk i, ⟨C.lo.1, fun y hy => C.lo.2 y (mem_erase hy)⟩, fun y hy => C.sz y (mem_erase hy), C.cnt⟩, ?_⟩
  · rw [List.length_eraseIdx, if_pos hl]
    refine hm.congr fun s => ?_
    by_cases hs : s = x.2.1
    · rw [if_pos hs, hs]; exact (look_none.2 (key_erase C.nk hi)).symm
    · rw [if_neg hs]; exact (look_erase hi hs).symm
  · have hy' := mem_erase hy
    have hyD : y.1 ∈ X.map (·.1) := List.mem_map_of_mem hy'
    exact ⟨(World.cell?_of_block (a := ⟨y.1, 0, none⟩) (kx _ hyD)).trans ((hF.val _ hyD 0 (by decide) (by decide)).trans (C.kv y hy').1), (World.cell?_of_block (a := ⟨y.1, 1, none⟩) (kx _ hyD)).trans ((hF.val _ hyD 1 (by decide) (by decide)).trans (C.kv y hy').2.1), (World.cell?_of_block (a := ⟨y.1, 2, none⟩) (kx _ hyD)).trans ((hF.val _ hyD 2 (by decide) (by decide)).trans (C.kv y hy').2.2)⟩
  · rw [map_erase]; exact nodup_erase C.nd i
  · exact (hF.below C.lo.1 (fun x hx => by obtain ⟨y, hy, rfl⟩ := List.mem_map.1 hx; exact C.lo.2 y hy)).grown hg (by
      have := C.lo.1
      have := lt1 H.ch
      omega) (fun q hq => by cases hq; exact h2)
def RW (b base : Nat) (most : Int) (X : List (En (ByteArray × Int))) (hits misses nb : Nat) (s : ByteArray) (w : World) (e : Ending) (w' : World) : Prop :=
  Below base w w' ∧ Fo w b X w' ∧ ((Ca.look X s = none ∧ e = .returned (.bool false) ∧ CA w' b base most X hits misses nb) ∨ ∃ (i : Nat) (x : En (ByteArray × Int)), X[i]? = some x ∧ x.2.1 = s ∧ e = .returned (.bool true) ∧ CA w' b base most (X.eraseIdx i) hits misses nb)
set_option maxRecDepth 100000 in
set_option maxHeartbeats 8000000 in
theorem remove1 (b base : Nat) (most : Int) (X : List (En (ByteArray × Int))) (hits misses nb : Nat) (s : ByteArray) (w : World) (C : Hid (CA w b base most X hits misses nb)) (hs : s.size ≤ maxLen) :
    Calls Try.prog 62 #[.pointer (some ⟨b, 0, none⟩), .string s] w (RW b base most X hits misses nb s w) := by
  obtain ⟨r, h1, h2, h3⟩ := C.out.mp
  have CU := Lib.hid (usable_yes b most w C.out.m0 C.out.mpos)
  cases hx : Ca.look X s with
  | none =>
    obtain ⟨v, hl⟩ := h3.no (t := 95) Try.underlying95 (zeroPE w) hs hx
    have HX := Lib.hid hx
    clear hx h3
    go_enter Try.func62, Try.ntmps62
    go_wp2_with fail
    refine CU.out.mono ?_
    rintro e w1 ⟨rfl, rfl⟩
    go_wp2_with (simp only [hl])
    go_ret
    exact ⟨Below.refl _ _, Fo.refl _ _ _, .inl ⟨HX.out, rfl, C.out⟩⟩
  | some e0 =>
    obtain ⟨i, v, hi⟩ := look_some hx
    have hl := h3.yes (t := 95) Try.underlying95 (zeroPE w) hs hx
    obtain ⟨N, O, H, hch⟩ := C.out.ln
    have hB : (X.map (·.1))[i]? = some e0 := by rw [List.getElem?_map, hi]; rfl
    have hs2 := chain_self hch C.out.nd hB
    have hs3 := chain_mem hch hB
    have CN := Lib.hid (unlink1 b e0 _ N O _ _ w H (List.mem_of_getElem? hB) hs2.1 hs2.2 hs3.1 hs3.2)
    have HCH := Lib.hid hch
    have HI := Lib.hid hi
    have HB := Lib.hid hB
    have HX := Lib.hid hx
    have HM := Lib.hid h3
    have HR := Lib.hid h1
    have hrb : r ≠ b := fun e => h3.ne h1 e.symm
    have HRD := Lib.hid (show r ∉ X.map (·.1) from fun hr => by
      obtain ⟨x, hx, e⟩ := List.mem_map.1 hr
      exact h3.ne (C.out.kv x hx).1 e)
    clear hx h3 H hch hs2 hs3 hi hB
    go_enter Try.func62, Try.ntmps62
    go_wp2_with fail
    refine CU.out.mono ?_
    rintro e w1 ⟨rfl, rfl⟩
    go_wp2_with (first | (simp only [hl]) | fail)
    refine CN.out.mono ?_
    rintro e w2 ⟨rfl, N1, O1, h1', t1', H1, hU, F1⟩
    have hc1 := chain_un HCH.out C.out.nd HB.out hU
    have hM2 := HM.out.heap (F1.far r hrb HRD.out)
    obtain ⟨w3, hd, hM3, hG3⟩ := hM2.del (t := 95) Try.underlying95 hs HX.out 0
    have hr2 : w2.cell? ⟨b, 1, none⟩ = some (.map (some r)) := (F1.own 1 (by decide) (by decide)).trans h1
    have HF := Lib.hid (C.out.eraseR HR.out HI.out F1 H1 (by rw [map_erase]; exact hc1.1) (by rw [map_erase]; exact hc1.2.1) (by rw [map_erase]; exact hc1.2.2) hM3 hG3)
    have HFO := Lib.hid (show Fo w b X w3 from ⟨(World.cell?_of_block (a := ⟨b, 1, none⟩) (hG3.block b (by have := World.block_lt_of_cell? w2 _ hr2; simpa using this) (by simpa using fun e => hrb e.symm))).trans (F1.own 1 (by decide) (by decide)), fun k a1 a2 a3 a4 => (hG3.block k (by rw [F1.sz]; exact a1) (by
      intro e
      cases e
      exact a4 h1)).trans (F1.far k a2 a3)⟩)
    clear hc1 hM2 hM3 hG3 F1 H1 hU h1
    go_wp2_with (simp only [hd])
    go_ret
    exact ⟨HF.out.2, HFO.out, .inr ⟨i, (e0, s, v), HI.out, rfl, rfl, HF.out.1⟩⟩
def lenV : Value → Nat
  | .slice _ n _ => n
  | _ => 0
def KW (X : List (En (ByteArray × Int))) (w : World) (e : Ending) (w' : World) : Prop := ∃ v, e = .returned v ∧ w'.ownsRow w.heap.size 9 1 v X.length (X.map fun x => .string x.2.1) ∧ Below w.heap.size w w'
theorem infoStr : (Try.prog.info? 9).map (fun i => (i.zero, i.size, i.bytes)) = some (some (.string ⟨#[]⟩), 1, 16) := by kernel_rfl
set_option maxRecDepth 100000 in
set_option maxHeartbeats 8000000 in
theorem keys1 (b base : Nat) (most : Int) (X : List (En (ByteArray × Int))) (hits misses nb : Nat) (w : World) (C : Hid (CA w b base most X hits misses nb)) (hn : X.length ≤ 2000) : Calls Try.prog 32 #[.pointer (some ⟨b, 0, none⟩)] w (KW X w) := by
  have CU := Lib.hid (usable_yes b most w C.out.m0 C.out.mpos)
  obtain ⟨i0, hi, hz0, hz1, hz2⟩ := info_parts infoStr
  obtain ⟨N, O, H, hch⟩ := C.out.ln
  have hh := H.ch
  have HB := Lib.hid (show (X.map (·.1)).head? = (X.map (·.1))[0]? from List.head?_eq_getElem?)
  rw [HB.out] at hh
  have HH := Lib.hid H
  have HCH := Lib.hid hch
  clear H hch
  have HP : Hid (∃ P, pt (X.map (·.1))[0]? = P) := Lib.hid ⟨_, rfl⟩
  obtain ⟨P, hP⟩ := HP.out
  rw [hP] at hh
  have HP := Lib.hid hP
  clear hP
  go_enter Try.func32, Try.ntmps32
  go_wp2_with fail
  refine CU.out.mono ?_
  rintro e w1 ⟨rfl, rfl⟩
  go_wp2_with fail
  go_loopw [3, 4] (fun lv pv wr => ∃ j : Nat, Hid (pv = pt (X.map (·.1))[j]?) ∧ j ≤ X.length ∧ Below w.heap.size w wr ∧ lenV lv = j ∧ Hid (wr.ownsRow w.heap.size 9 1 lv j ((X.take j).map fun x => .string x.2.1))) (fun l _ _ => X.length - lenV l)
  case atStart => exact ⟨0, Lib.hid HP.out.symm, by omega, Below.refl _ _, rfl, Lib.hid (World.ownsRow_nil _ _ _ _)⟩
  case round =>
    obtain ⟨j, hE, hj, hBl, hL, hO⟩ := hrel
    have hE2 := hE.out
    by_cases hlt : j < X.length
    · have hx : X[j]? = some X[j] := List.getElem?_eq_getElem hlt
      obtain ⟨⟨e, s, v⟩, hxx⟩ : ∃ x, X[j] = x := ⟨_, rfl⟩
      rw [hxx] at hx
      have hB : (X.map (·.1))[j]? = some e := by rw [List.getElem?_map, hx]; rfl
      rw [hB] at hE2
      have heD : e ∈ X.map (·.1) := List.mem_of_getElem? hB
      have C2 := C.out.keep hBl
      have c0 := (C2.kv _ (List.mem_of_getElem? hx)).1
      have H2 := HH.out.below hBl
      have c3 := H2.o e heD
      rw [(HCH.out j e hB).2] at c3
      have HTK : Hid ((X.take (j + 1)).map (fun x => Value.string x.2.1) = (X.take j).map (fun x => Value.string x.2.1) ++ [.string s]) := Lib.hid (by
        rw [List.take_succ_eq_append_getElem hlt, hxx, List.map_append]; rfl)
      simp only at c0
      obtain ⟨q, hq⟩ : ∃ q, (X.map (·.1))[j + 1]? = q := ⟨_, rfl⟩
      rw [hq] at c3
      have HQ := Lib.hid hq
      simp only [pt] at hE2
      subst hE2
      obtain ⟨P3, hP3⟩ : ∃ P, pt q = P := ⟨_, rfl⟩
      rw [hP3] at c3
      have HP3 := Lib.hid hP3
      have HL := Lib.hid hL
      have BA := (Below.refl wr.heap.size wr).alloc (Nat.le_refl _) (Obj.cells #[Value.string s] 9)
      have OA := hO.out.alloc (Obj.cells #[Value.string s] 9)
      have KA := hBl.trans (BA.mono hBl.size)
      have hh0 : e < wr.heap.size := by have := World.block_lt_of_cell? wr _ c0; simpa using this
      have a3 : (wr.alloc (Obj.cells #[Value.string s] 9)).cell? ⟨e, 4, none⟩ = some P3 := (BA.cell (p := ⟨e, 4, none⟩) hh0).trans c3
      have aN : (wr.alloc (Obj.cells #[Value.string s] 9)).cell? ⟨wr.heap.size, 0, none⟩ = some (.string s) := by go_cell
      have hx1 : (wr.alloc (Obj.cells #[Value.string s] 9)).heap.size = wr.heap.size + 1 := by simp
      have HX1 := Lib.hid hx1
      have HKA := Lib.hid KA.size
      have HBS := Lib.hid hBl.size
      have hne : e ≠ wr.heap.size := by omega
      have HEM := Lib.hid heD
      have hj1 : j + 1 ≤ X.length := hlt
      have HOA := Lib.hid OA
      clear hx hxx hB heD C2 H2 hP3 hq hL HB HP hh hE hO OA hx1 hlt
      go_wp2_with (at_builtin; refine wpList_append_own _ rfl _ _ 58 rfl w.heap.size 9 i0 (.string ⟨#[]⟩) 1 16 Try.underlying58 hi hz0 hz1 hz2 rfl (by decide) _ _ _ rfl HOA.out ⟨wr.heap.size, 0, none⟩ 1 1 [.string s] rfl rfl ?_ ?_ ?_ ?_ ?_ ?_)
      · intro q' x' hx'
        rcases q' with _ | q'
        · cases hx'; exact aN
        · simp at hx'
      · intro x' hx'
        simp at hx'
        subst hx'
        rfl
      · unfold maxLen; omega
      · omega
      · exact HKA.out
      intro v' w5 hown' hgrow _
      have a5 : w5.cell? ⟨e, 4, none⟩ = some P3 := hgrow.cell (a := ⟨e, 4, none⟩) a3 (fun h => by
        have h9 := (HOA.out.lt e h.symm).1
        have hb0 := C.out
        have := World.block_lt_of_cell? w _ (HH.out.o e (HEM.out))
        simp at this
        omega)
      have K5 := KA.grown hgrow KA.size (fun q' hq' => (HOA.out.lt q' hq').1)
      obtain ⟨q', c', rfl⟩ : ∃ q c, v' = .slice q (j + 1) c := by
        rcases hown'.2 with ⟨rfl, hn⟩ | ⟨g, cap, cur, rfl, _⟩
        · omega
        · exact ⟨_, _, rfl⟩
      have hown2 : Hid (w5.ownsRow w.heap.size 9 1 (.slice q' (j + 1) c') (j + 1) ((X.take (j + 1)).map fun x => .string x.2.1)) := Lib.hid (by rw [HTK.out]; simpa [List.map_take] using hown')
      clear hown' hgrow a3 aN c3 c0 HOA KA BA
      go_wp2
      go_roundw
      case rel => exact ⟨j + 1, Lib.hid (by rw [← HP3.out, HQ.out]), by omega, K5, rfl, hown2⟩
      case measure => have := HL.out; show X.length - (j + 1) < X.length - lenV _; rw [this]; omega
    · obtain rfl : j = X.length := by omega
      rw [List.getElem?_eq_none (by simp)] at hE2
      simp only [pt] at hE2
      subst hE2
      have hO2 := hO.out
      rw [List.take_length] at hO2
      have HO2 := Lib.hid hO2
      clear hO hO2 hE hh HP HB
      go_wp2
      go_ret
      exact ⟨_, rfl, HO2.out, hBl⟩
set_option maxHeartbeats 4000000 in
theorem new1 (m : Int) (w : World) (h1 : 1 ≤ m) (h2 : m ≤ 1024) : Calls Try.prog 24 #[.int .i64 m] w fun e w' => e = .returned (.tuple #[.pointer (some ⟨w.heap.size + 1, 0, none⟩), .int .i64 0]) ∧ CA w' (w.heap.size + 1) w.heap.size m [] 0 0 0 ∧ Below w.heap.size w w' := by
  have hmm := @run_makeMap Try.prog
  have HM := Lib.hid (MP.made w)
  go_enter Try.func24, Try.ntmps24
  go_wp2
  go_ret2
  refine ⟨rfl, ⟨by go_cell, by omega, ⟨w.heap.size, by go_cell, Nat.le_refl _, HM.out.heap ?_⟩, by go_cell, by go_cell, (by first | go_cell | simp), (by first | go_cell | simp), ⟨fun _ => none, fun _ => none, ⟨(by show _ = some (Value.pointer none); go_cell), (by show _ = some (Value.pointer none); go_cell), (by first | go_cell | simp), (by first | go_cell | simp), fun x h => (by cases h), fun x h => (by cases h), fun x h => (by cases h), fun x h => (by cases h), by simp⟩, fun i x h => (by simp at h)⟩, fun x h => (by cases h), by simp, by simp, ⟨by omega, fun x h => (by cases h)⟩, fun x h => (by cases h), by omega⟩, ((Below.refl _ _).alloc (Nat.le_refl _) _).alloc (by simp) _⟩
  exact ((Below.refl (w.alloc (.map #[] 0)).heap.size (w.alloc (.map #[] 0))).alloc (Nat.le_refl _) _).block w.heap.size (by simp)
theorem new_bad (m : Int) (w : World) (h : m < 1 ∨ 1024 < m) : Calls Try.prog 24 #[.int .i64 m] w fun e w' => e = .returned (.tuple #[.pointer none, .int .i64 1]) ∧ w = w' := by
  rcases h with h | h
  · go_enter Try.func24, Try.ntmps24
    go_wp2
    go_ret2
    exact ⟨rfl, rfl⟩
  · have h1 : ¬ m < 1 := by omega
    go_enter Try.func24, Try.ntmps24
    go_wp2
    go_ret2
    exact ⟨rfl, rfl⟩
end Go.Proofs.Ytlmbjipcdhenlaa.Cp
