/- The law BytesRows: what its call does. Conditions: a heap that has a block. -/
import Derived.Test.YtdmdddmfiankhaaCN
import Derived.Test.YtdmdddmfiankhaaCB
import Derived.Lib.SlBytesConst
namespace Go.Proofs.Ytdmdddmfiankhaa
open Go.RowKit
theorem NumsIn.cut {w : World} {A : Option Addr} {n bb off : Nat} {l : List Nat} (h : NumsIn w A n bb off l) (m : Nat) (hm : m ≤ n) : NumsIn w A m bb off (l.take m) := by
  refine ⟨by rw [List.length_take, h.1]; omega, fun h0 => h.2.1 (by omega), fun i hi => ?_⟩
  have e : (l.take m).getD i 0 = l.getD i 0 := by simp [List.getD, hi]
  rw [e]; exact h.2.2 i (by omega)
theorem preRun32 (A : Option Addr) (n cap m : Nat) (hm : m ≤ n) (hc : n ≤ cap) (w' : World) :
    (Instr.slice 36 (.slice A n cap) none (some (.int .i64 (m : Int))) none).run Try.prog w' = .ok (.slice A m cap) w' := by
  have he : Try.prog.elem 36 = 34 := by kernel_rfl
  have hs : ∀ w, (sizeOf (Try.prog.elem 36)).run Try.prog w = .ok 1 w := by intro w; rw [he]; kernel_rfl
  rw [run_slice_h (P := Try.prog) w' 36 A n cap (by kernel_rfl) .i64 (m : Int) (by omega) (by omega), hs]
  simp only [Result.andThen, sliced, Int.toNat_natCast, Nat.zero_mul, Nat.sub_zero]
  have e : (A.map fun x => x.add 0) = A := by
    cases A with
    | none => rfl
    | some a => rfl
  rw [e]; split <;> rfl
theorem own_form {B n : Nat} {t : TypeId} {w : World} {v : Value} {xs : List Value} (h : w.ownsRow B t 1 v n xs) : ∃ A c, v = .slice A n c ∧ ∀ j, j < n → ∃ g, A = some ⟨g, 0, none⟩ ∧ w.cell? ⟨g, j, none⟩ = xs[j]? := by
  rcases h.2 with ⟨rfl, h2⟩ | ⟨g, c, cur, rfl, _⟩
  · exact ⟨none, 0, by rw [h2], fun j hj => by omega⟩
  · exact ⟨some ⟨g, 0, none⟩, c, rfl, fun j hj => ⟨g, rfl, World.ownsRow.cellAt h j (by omega)⟩⟩
theorem lit_bytes (w : World) (xs : List UInt8) (C : Array Value) (n : Nat) (hC : C = bvec xs) (hn : xs.length = n) : Bytes (w.alloc (.cells C 5 (C.size, C.size + 1))) (.slice (some ⟨w.heap.size, 0, none⟩) n n) xs (some ⟨w.heap.size, 0, none⟩) n w.heap.size 0 ∧
    Below w.heap.size w (w.alloc (.cells C 5 (C.size, C.size + 1))) ∧
    (convert 24 24 (.slice (some ⟨w.heap.size, 0, none⟩) n n)).run Try.prog (w.alloc (.cells C 5)) = .ok (.slice (some ⟨w.heap.size, 0, none⟩) n n) (w.alloc (.cells C 5 (C.size, C.size + 1))) := by
  subst hn hC
  refine ⟨⟨rfl, Nat.le_refl _, (fun h => by cases h), fun a ha j hj => ?_, by simp, fun _ => rfl⟩, (Below.refl _ _).alloc (Nat.le_refl _) _, Lib.run_convert_bytes_const w 24 5 _ _ _ Try.underlying24 Try.underlying5⟩
  cases ha
  rw [add_at, Nat.zero_add, World.cell?_alloc_mark]
  exact bvec_get xs j hj
theorem fresh_hold {B : Nat} {w w' : World} {v : Value} {xs : List UInt8} (h : Fresh B w v xs) (hb : Below w.heap.size w w') : Fresh B w' v xs :=
  World.ownsRow.kept (row := none) h ⟨hb.os, hb.tape, hb.output, hb.size, fun i hi _ => hb.block i hi⟩ (by cases h : v.ownBlock <;> simp)
theorem rowL_len (k : Int) (c : Nat) : ∀ (st : St) (acc : List Nat), (rowL k c st acc).1.length ≤ acc.length + c := by
  induction c with
  | zero => intro st acc; exact Nat.le_refl _
  | succ c ih =>
    intro st acc
    rw [rowL]
    split
    · exact Nat.zero_le _
    · refine Nat.le_trans (ih _ _) ?_
      rw [List.length_append, List.length_singleton]; omega
theorem rowS_len (s : St) (most k : Int) : (rowS s most k).1.length ≤ 65535 := by
  unfold rowS
  split
  · exact Nat.zero_le _
  · refine Nat.le_trans (rowL_len _ _ _ _) ?_
    have := (below_small s most.toNat).1
    simp; omega
theorem own_cell {B n c : Nat} {t : TypeId} {w : World} {A : Option Addr} {ys : List Nat} (h : w.ownsRow B t 1 (.slice A n c) n (ys.map V64)) (j : Nat) (hj : j < n) : ∃ g, A = some ⟨g, 0, none⟩ ∧ w.cell? ⟨g, j, none⟩ = some (.int .u64 (ys.getD j 0 : Nat)) := by
  have hl : ys.length = n := by have := h.1; simpa using this
  rcases h.2 with ⟨h1, h2⟩ | ⟨g, c2, cur, h1, _⟩
  · omega
  · cases h1
    refine ⟨g, rfl, (World.ownsRow.cellAt h j (by omega)).trans ?_⟩
    have hj2 : j < ys.length := by omega
    rw [List.getElem?_map, List.getElem?_eq_getElem hj2]
    simp [V64, List.getD, List.getElem?_eq_getElem hj2]
theorem rowRows_any (g gx : Nat) (s : St) (most width : Int) (him : I64 most) (w : World) (h : Tp w g s) (hx : Has w gx 38 #[.int .i64 most, .int .i64 width]) (hne : gx ≠ g) (ys : List Nat) (st : St) (he : rowS s most width = (ys, st)) :
    Calls Try.prog 21 #[.pointer (some ⟨g, 0, none⟩), .int .i64 most, .func (.func 22) #[] #[.pointer (some ⟨gx, 0, none⟩)]] w fun e w' => ∃ v, e = .returned v ∧ w'.ownsRow w.heap.size 22 1 v ys.length (ys.map V64) ∧ Tp w' g st ∧ Grw g w w' := by
  by_cases hm : most < 0
  · have := rowRows_less g gx s most width hm w h
    rw [he] at this; exact this
  · obtain ⟨m, rfl⟩ : ∃ m : Nat, most = (m : Int) := ⟨most.toNat, by omega⟩
    have := rowRows_more g gx s m (by unfold I64 at him; omega) width w h _ hx hne
    rw [he] at this; exact this
theorem qRow_any (g : Nat) (s : St) (most width : Int) (him : I64 most) (w : World) (h : Tq w g s) (ys : List Nat) (st : St) (he : rowS s most width = (ys, st)) :
    Calls Try.prog 24 #[.pointer (some ⟨g, 0, none⟩), .int .i64 most, .int .i64 width] w fun e w' => ∃ v, e = .returned v ∧ w'.ownsRow w.heap.size 22 1 v ys.length (ys.map V64) ∧ Tq w' g st ∧ Grw g w w' := by
  by_cases hm : most < 0
  · have := qRow_less g s most width hm w h
    rw [he] at this; exact this
  · obtain ⟨m, rfl⟩ : ∃ m : Nat, most = (m : Int) := ⟨most.toNat, by omega⟩
    have := qRow_more g s m (by unfold I64 at him; omega) width w h
    rw [he] at this; exact this
theorem ba_cat (a b : List UInt8) : ba (a ++ b) = ba a ++ ba b := by
  apply ByteArray.ext; apply Array.ext'; simp [ba]
def wantB (m : Nat) (l : List Nat) (j : Nat) : ByteArray := ba (([120] ++ numL 2 m) ++ rowB (l.take j))
theorem want_next (m : Nat) (l : List Nat) (j : Nat) (h : j < l.length) : wantB m l (j + 1) = wantB m l j ++ ba (numL 4 (l.getD j 0)) := by
  unfold wantB
  rw [rowB_next _ _ h, ← List.append_assoc, ba_cat]
theorem want_zero (m : Nat) (l : List Nat) : wantB m l 0 = (⟨#[120]⟩ : ByteArray) ++ ba (numL 2 m) := by
  unfold wantB
  rw [List.take_zero, rowB, List.map_nil, List.flatten_nil, List.append_nil, ba_cat]
  rfl
theorem want_size (m : Nat) (l : List Nat) (j : Nat) (h : l.length ≤ 300) : (wantB m l j).size ≤ 2000 := by
  have := numL_len 2 m
  unfold wantB
  rw [ba_size, List.length_append, List.length_append, rowB_len, List.length_take]
  simp only [List.length_singleton]; omega
set_option maxRecDepth 100000 in
set_option maxHeartbeats 1000000 in
theorem rows_few_good (A : Option Addr) (n cap bb off : Nat) (l : List Nat) (s0 : ByteArray) (most width : Int) (him : I64 most) (hcap : n ≤ cap) (hm : n ≤ 300) (hc : ∀ i, i < n → (l.take n).getD i 0 ≠ 99) (w : World) (hp : 0 < w.heap.size) (hl0 : NumsIn w A n bb off l) :
    Calls Try.prog 5 #[.slice A n cap, .string s0, .agg #[.int .i64 most, .int .i64 width]] w fun e w' => e = .returned (.bool true) ∧ Below w.heap.size w w' := by
  have HP := hid hp
  have hmin : ¬ (300 : Int) < (n : Int) := by omega
  have ks := preRun32 A n cap n (by omega) hcap
  have hm3 : n ≤ 300 := by omega
  have HA := hid (hl0.cut n (by omega))
  generalize l.take n = l2 at HA hc
  have HLEN : Hid (l2.length = n) := HA.out.1
  have HCL := hid hc
  have HIM := hid him
  obtain ⟨s, HS⟩ : ∃ s, Hid (ba ((tl s0).take 1000) = s) := ⟨_, rfl⟩
  have CA : Hid (∀ w, Calls Try.prog 12 #[.string s0, .int .i64 1000] w fun e w' => e = .returned (.string s) ∧ w = w') := fun w => by rw [← HS.out]; exact cut_any s0 1000 (by omega) w
  have HSZ : Hid (s.size ≤ 1000) := by show _ ≤ _; rw [← HS.out, ba_size, List.length_take]; omega
  have HX0 : Hid (Has (w.alloc (.cells #[.int .i64 most, .int .i64 width] 38)) w.heap.size 38 #[.int .i64 most, .int .i64 width]) := Has.fresh w 38 _
  have HB0 : Hid (Below w.heap.size w (w.alloc (.cells #[.int .i64 most, .int .i64 width] 38))) := (Below.refl _ _).alloc (Nat.le_refl _) _
  generalize hWB : w.alloc (.cells #[.int .i64 most, .int .i64 width] 38) = wb at HX0 HB0
  obtain ⟨y0, hbc, kcs⟩ := lit_bytes wb [120] #[.int .u8 120] 1 rfl rfl
  generalize wb.alloc (.cells #[.int .u8 120] 5 (#[Value.int .u8 120].size, #[Value.int .u8 120].size + 1)) = wc at y0 hbc kcs
  have HBC : Hid (Below w.heap.size w wc) := HB0.out.trans (hbc.mono HB0.out.size)
  have HXC := hid (HX0.out.kept hbc HX0.out.inside)
  have CPR := hid (putRow_good _ [120] _ _ _ _ A n cap bb off l2 hm3 hc (by decide) wc y0 (HA.out.kept HBC.out (Nat.le_refl _)))
  have CN2 : Hid (∀ w1, Calls Try.prog 16 #[.int .i64 2, .int .u64 ((n : Nat) : Int)] w1 fun e w' => ∃ v, e = .returned v ∧ Fresh w1.heap.size w' v (numL 2 n) ∧ Below w1.heap.size w1 w') := fun w1 => rNum_any 2 n (by omega) w1
  have wm : IntKind.u64.wrap ((n : Nat) : Int) = ((n : Nat) : Int) := u64in _ (by omega)
  obtain ⟨z2, HZ2⟩ : ∃ z2, Hid (ba (numL 2 n) = z2) := ⟨_, rfl⟩
  have q1 : ¬ 9223372036854775807 < 1 + z2.size := by
    have := numL_len 2 n
    rw [← HZ2.out, ba_size]; omega
  have HW0 : Hid (wantB n l2 0 = (⟨#[120]⟩ : ByteArray) ++ z2) := by show _ = _; rw [want_zero, HZ2.out]
  have HWS : Hid (∀ j, (wantB n l2 j).size ≤ 2000) := fun j => want_size _ _ _ (by rw [HLEN.out]; exact hm3)
  have HM3 := hid hm3
  clear hl0 hp y0 hbc hc him hcap hm3
  go_enter Try.func5, Try.ntmps5
  go_wp2_with (first
    | (go_at_call 12; refine (CA.out _).mono ?_; rintro e1 w1 ⟨rfl, rfl⟩)
    | (go_at_call 18; refine CPR.out.mono ?_; rintro e2 w2 ⟨v7, rfl, ho, hb⟩
       have O7 := hid ho
       have B2 : Hid (Below w.heap.size w w2) := HBC.out.trans (hb.mono HBC.out.size)
       have X2 := hid (HXC.out.kept hb HXC.out.inside)
       clear ho hb)
    | (go_at_call 16; refine (CN2.out _).mono ?_; rintro e3 w3 ⟨v3, rfl, ho, hb⟩
       obtain ⟨A3, c3, b3, y3, _, _⟩ := ho.bytes (Nat.lt_of_lt_of_le HP.out (Nat.le_trans B2.out.size hb.size))
       have k3 := conv_is y3 HZ2.out
       have B3 : Hid (Below w.heap.size w w3) := B2.out.trans (hb.mono B2.out.size)
       have X3 := hid (X2.out.kept hb X2.out.inside)
       have O73 := hid (fresh_hold O7.out hb)
       clear ho hb y3))
  clear k3 q1 ks wm kcs
  go_loopw [9, 10, 11] (fun z b i wr => ∃ (j : Nat) (zj : ByteArray) (bj : Bool), j ≤ n ∧ i = .int .i64 (j : Int) ∧ z = .string zj ∧ b = .bool bj ∧ Hid (zj = wantB n l2 j) ∧ Hid (bj = false) ∧ Hid (Below w.heap.size w wr) ∧ Hid (Has wr w.heap.size 38 #[.int .i64 most, .int .i64 width]) ∧ Hid (Fresh wc.heap.size wr v7 (([120] ++ numL 2 n) ++ rowB l2))) (fun _ _ i _ => n - (intOf i).toNat)
  case atStart => exact ⟨0, _, false, by omega, rfl, rfl, rfl, HW0.out.symm, rfl, B3, X3, O73⟩
  case round =>
    obtain ⟨j, zj, bj, hj, rfl, rfl, rfl, HZ, HBJ, HB, HX, HO⟩ := hrel
    by_cases hlt : j < n
    · have hA := (HA.out.2.1 (by omega)).1
      subst hA
      obtain ⟨x, HXJ⟩ : ∃ x, Hid (l2.getD j 0 = x) := ⟨_, rfl⟩
      have hq := (HA.out.kept HB.out (Nat.le_refl _)).2.2 j hlt
      rw [HXJ.out] at hq
      have c1 := hq.1
      have CN4 : Hid (∀ w1, Calls Try.prog 16 #[.int .i64 4, .int .u64 (x : Int)] w1 fun e w' => ∃ v, e = .returned v ∧ Fresh w1.heap.size w' v (numL 4 x) ∧ Below w1.heap.size w1 w') := fun w1 => rNum_any 4 x (by have := hq.2; omega) w1
      have wx : IntKind.u64.wrap (x : Int) = x := u64in _ (by have := hq.2; omega)
      obtain ⟨zx, HZX⟩ : ∃ zx, Hid (ba (numL 4 x) = zx) := ⟨_, rfl⟩
      have q2 : ¬ 9223372036854775807 < zj.size + zx.size := by
        have h1 := numL_len 4 x
        have h2 := HWS.out j
        rw [HZ.out, ← HZX.out, ba_size]; omega
      have HZN : Hid (zj ++ zx = wantB n l2 (j + 1)) := by
        show _ = _
        rw [want_next _ _ _ (by rw [HLEN.out]; exact hlt), HXJ.out, HZX.out, HZ.out]
      have hjM : (j : Int) < ((n : Nat) : Int) := by omega
      have hM3 : n ≤ 300 := HM3.out
      clear hq
      obtain rfl : bj = false := HBJ.out
      have h99 : ((x : Int) == 99) = false := by
        have := HCL.out j hlt
        rw [HXJ.out] at this
        simp; omega
      go_wp2_with (first
        | (go_at_call 16; refine (CN4.out _).mono ?_; rintro e3 w3 ⟨v3, rfl, ho, hb⟩
           obtain ⟨A3, c3, b3, y3, _, _⟩ := ho.bytes (Nat.lt_of_lt_of_le HP.out (Nat.le_trans HB.out.size hb.size))
           have k3 := conv_is y3 HZX.out
           have B3 : Hid (Below w.heap.size w w3) := HB.out.trans (hb.mono HB.out.size)
           have X3 := hid (HX.out.kept hb HX.out.inside)
           have O73 := hid (fresh_hold HO.out hb)
           clear ho hb y3))
      go_roundw
      case rel => exact ⟨j + 1, zj ++ zx, false, by omega, by go_num, rfl, rfl, HZN, rfl, B3, X3, O73⟩
      case measure => simp [intOf]; omega
    · obtain rfl : n = j := by omega
      obtain rfl : bj = false := HBJ.out
      obtain ⟨A7, c7, b7, y7, _, _⟩ := HO.out.bytes (Nat.lt_of_lt_of_le HP.out HB.out.size)
      have k7 : (convert 24 9 v7).run Try.prog wr = .ok (.string zj) wr := conv_is y7 (by
        rw [HZ.out, wantB, List.take_of_length_le (Nat.le_of_eq HLEN.out)])
      clear y7
      have KC := conv_string s wr
      have ct := newTape_any _ _ _ _ _ _ (by rw [tl_length]; exact Nat.le_trans HSZ.out (by decide)) _ (conv_bytes s wr)
      have hbd := conv_below s wr
      generalize Lib.bytesWorld wr 5 s = wd at KC ct hbd
      generalize grownCap wr s.size 0 5 = cd at KC ct
      have CT := hid ct
      have BD : Hid (Below w.heap.size w wd) := HB.out.trans (hbd.mono HB.out.size)
      have XD := hid (HX.out.kept hbd HX.out.inside)
      have GX : Hid (w.heap.size < wd.heap.size) := XD.out.inside
      obtain ⟨ys, st, HRS⟩ : ∃ ys st, Hid (rowS (false, tl s) most width = (ys, st)) := ⟨_, _, rfl⟩
      have C1 : Hid (∀ w1 g, Tp w1 g st → Calls Try.prog 25 #[.pointer (some ⟨g, 0, none⟩)] w1 fun e w' => e = .returned (.int .i64 (st.2.length : Int)) ∧ w1 = w') := fun w1 g h => left_any g st w1 h
      have C2 : Hid (∀ w1 g, Tq w1 g st → Calls Try.prog 26 #[.pointer (some ⟨g, 0, none⟩)] w1 fun e w' => e = .returned (.int .i64 (st.2.length : Int)) ∧ w1 = w') := fun w1 g h => qLeft_any g st w1 h
      have C3 : Hid (∀ w1 g, Tp w1 g st → Calls Try.prog 27 #[.pointer (some ⟨g, 0, none⟩)] w1 fun e w' => e = .returned (.int .i64 (errS st)) ∧ w1 = w') := fun w1 g h => err_any g st w1 h
      have C4 : Hid (∀ w1 g, Tq w1 g st → Calls Try.prog 28 #[.pointer (some ⟨g, 0, none⟩)] w1 fun e w' => e = .returned (.int .i64 (errS st)) ∧ w1 = w') := fun w1 g h => qErr_any g st w1 h
      clear ct hbd hlt hj
      go_wp2_with (first
        | (go_at_call 20; refine CT.out.mono ?_; rintro e4 w4 ⟨gt, rfl, hg, ht, hb⟩
           have T4 := hid ht
           have B4 : Hid (Below w.heap.size w w4) := BD.out.trans (hb.mono BD.out.size)
           have X4 := hid (XD.out.kept hb XD.out.inside)
           have NXT : Hid (w.heap.size ≠ gt) := Nat.ne_of_lt (Nat.lt_of_lt_of_le GX.out hg)
           have KQ := conv_string s w4
           have ⟨hq, hbq⟩ := box_q s w4 (Nat.le_trans HSZ.out (by decide)) (Nat.lt_of_lt_of_le HP.out B4.out.size)
           have hgq0 := (conv_below s w4).size
           generalize Lib.bytesWorld w4 5 s = we at KQ hq hbq hgq0
           generalize grownCap w4 s.size 0 5 = ce at KQ hq hbq
           generalize hgq : we.heap.size = gq at hq hgq0
           generalize hWF : we.alloc (.cells #[.slice (some ⟨w4.heap.size, 0, none⟩) s.size ce, .bool false] 45) = wf at hq hbq
           have Q5 := hid hq
           have T5 := hid (T4.out.kept hbq)
           have X5 := hid (X4.out.kept hbq X4.out.inside)
           have B5 : Hid (Below w.heap.size w wf) := B4.out.trans (hbq.mono B4.out.size)
           have NTQ : Hid (gt ≠ gq) := Nat.ne_of_lt (Nat.lt_of_lt_of_le T4.out.inside hgq0)
           have NXQ : Hid (w.heap.size ≠ gq) := Nat.ne_of_lt (Nat.lt_of_lt_of_le X4.out.inside hgq0)
           have c5 : wf.cell? ⟨w.heap.size, 0, none⟩ = some (.int .i64 most) := X5.out.at_ 0
           have LT : Hid (w.heap.size ≤ gt) := Nat.le_of_lt (Nat.lt_of_lt_of_le GX.out hg)
           have LQ : Hid (w.heap.size ≤ gq) := Nat.le_trans B4.out.size hgq0
           clear hg ht hb hq hbq hgq0)
        | (go_at_call 21; refine (rowRows_any _ _ _ _ _ HIM.out _ T5.out X5.out NXT.out _ _ HRS.out).mono ?_; rintro e6 w6 ⟨v14, rfl, ho, ht, hg⟩
           obtain ⟨A14, c14, rfl, _⟩ := own_form ho
           have T6 := hid ht
           have Q6 := hid (Q5.out.aside T5.out (Ne.symm NTQ.out) hg)
           have X6 := hid (X5.out.grw hg NXT.out)
           have B6 : Hid (Below w.heap.size w w6) := Grw.below B5.out hg LT.out B5.out.size
           have O6 := hid ho
           have c60 : w6.cell? ⟨w.heap.size, 0, none⟩ = some (.int .i64 most) := X6.out.at_ 0
           have c61 : w6.cell? ⟨w.heap.size, 1, none⟩ = some (.int .i64 width) := X6.out.at_ 1
           clear ho ht hg c5)
        | (go_at_call 24; refine (qRow_any _ _ _ _ HIM.out _ Q6.out _ _ HRS.out).mono ?_; rintro e7 w7 ⟨v15, rfl, ho, hq, hg⟩
           obtain ⟨A15, c15, rfl, _⟩ := own_form ho
           have T7 := hid (T6.out.aside Q6.out NTQ.out hg)
           have Q7 := hid hq
           have B7 : Hid (Below w.heap.size w w7) := Grw.below B6.out hg LQ.out B6.out.size
           have O14 := hid (own_aside O6.out hg Q5.out.inside)
           have O15 := hid ho
           clear ho hq hg c60 c61)
        | (go_at_call 25; refine (C1.out _ _ T7.out).mono ?_; rintro e8 w8 ⟨rfl, rfl⟩)
        | (go_at_call 26; refine (C2.out _ _ Q7.out).mono ?_; rintro e8 w8 ⟨rfl, rfl⟩)
        | (go_at_call 27; refine (C3.out _ _ T7.out).mono ?_; rintro e8 w8 ⟨rfl, rfl⟩)
        | (go_at_call 28; refine (C4.out _ _ Q7.out).mono ?_; rintro e8 w8 ⟨rfl, rfl⟩))
      have HYL : Hid (ys.length ≤ 70000) := by
        show _ ≤ _
        have := rowS_len (false, tl s) most width
        rw [HRS.out] at this
        exact Nat.le_trans this (by decide)
      go_loopw [16] (fun i w9 => ∃ j : Nat, j ≤ ys.length ∧ i = .int .i64 (j : Int) ∧ Hid (w9.ownsRow wf.heap.size 22 1 (.slice A14 ys.length c14) ys.length (ys.map V64)) ∧ Hid (w9.ownsRow w6.heap.size 22 1 (.slice A15 ys.length c15) ys.length (ys.map V64)) ∧ Hid (Below w.heap.size w w9)) (fun i _ => ys.length - (intOf i).toNat)
      case atStart => exact ⟨0, Nat.zero_le _, rfl, O14, O15, B7⟩
      case round =>
        obtain ⟨j, hj, rfl, P1, P2, PB⟩ := hrel
        by_cases hlt : j < ys.length
        · obtain ⟨g1, hA1, d1⟩ := own_cell P1.out j hlt
          obtain ⟨g2, hA2, d2⟩ := own_cell P2.out j hlt
          subst hA1 hA2
          have hy7 : ys.length ≤ 70000 := HYL.out
          generalize ys.getD j 0 = y at d1 d2
          go_wp2
          go_quiet (fail)
          go_wp2
          go_roundw
          case rel => exact ⟨j + 1, by omega, by go_num, P1.out, P2.out, PB.out.drewN' _⟩
          case measure => simp [intOf]; omega
        · obtain rfl : j = ys.length := by omega
          have CW := hid (works_any _ (Nat.lt_of_lt_of_le HP.out PB.out.size))
          clear hlt
          go_wp2_with (first
            | (go_at_call 17; refine CW.out.mono ?_; rintro e8 w8 ⟨rfl, hb8⟩))
          go_ret
          exact ⟨rfl, PB.out.trans (hb8.mono PB.out.size)⟩
set_option maxRecDepth 100000 in
set_option maxHeartbeats 1000000 in
theorem rows_few_bad (A : Option Addr) (n cap bb off : Nat) (l : List Nat) (s0 : ByteArray) (most width : Int) (him : I64 most) (hcap : n ≤ cap) (hm : n ≤ 300) (hc : ∃ i, i < n ∧ (l.take n).getD i 0 = 99) (w : World) (hp : 0 < w.heap.size) (hl0 : NumsIn w A n bb off l) :
    Calls Try.prog 5 #[.slice A n cap, .string s0, .agg #[.int .i64 most, .int .i64 width]] w fun e w' => e = .returned (.bool true) ∧ Below w.heap.size w w' := by
  have HP := hid hp
  have hmin : ¬ (300 : Int) < (n : Int) := by omega
  have ks := preRun32 A n cap n (by omega) hcap
  have hm3 : n ≤ 300 := by omega
  have HA := hid (hl0.cut n (by omega))
  generalize l.take n = l2 at HA hc
  have HLEN : Hid (l2.length = n) := HA.out.1
  have HCL := hid hc
  have HIM := hid him
  obtain ⟨s, HS⟩ : ∃ s, Hid (ba ((tl s0).take 1000) = s) := ⟨_, rfl⟩
  have CA : Hid (∀ w, Calls Try.prog 12 #[.string s0, .int .i64 1000] w fun e w' => e = .returned (.string s) ∧ w = w') := fun w => by rw [← HS.out]; exact cut_any s0 1000 (by omega) w
  have HSZ : Hid (s.size ≤ 1000) := by show _ ≤ _; rw [← HS.out, ba_size, List.length_take]; omega
  have HX0 : Hid (Has (w.alloc (.cells #[.int .i64 most, .int .i64 width] 38)) w.heap.size 38 #[.int .i64 most, .int .i64 width]) := Has.fresh w 38 _
  have HB0 : Hid (Below w.heap.size w (w.alloc (.cells #[.int .i64 most, .int .i64 width] 38))) := (Below.refl _ _).alloc (Nat.le_refl _) _
  generalize hWB : w.alloc (.cells #[.int .i64 most, .int .i64 width] 38) = wb at HX0 HB0
  obtain ⟨y0, hbc, kcs⟩ := lit_bytes wb [120] #[.int .u8 120] 1 rfl rfl
  generalize wb.alloc (.cells #[.int .u8 120] 5 (#[Value.int .u8 120].size, #[Value.int .u8 120].size + 1)) = wc at y0 hbc kcs
  have HBC : Hid (Below w.heap.size w wc) := HB0.out.trans (hbc.mono HB0.out.size)
  have HXC := hid (HX0.out.kept hbc HX0.out.inside)
  have CPR := hid (putRow_bad _ [120] _ _ _ _ A n cap bb off l2 hm3 hc (by decide) wc y0 (HA.out.kept HBC.out (Nat.le_refl _)))
  have CN2 : Hid (∀ w1, Calls Try.prog 16 #[.int .i64 2, .int .u64 ((n : Nat) : Int)] w1 fun e w' => ∃ v, e = .returned v ∧ Fresh w1.heap.size w' v (numL 2 n) ∧ Below w1.heap.size w1 w') := fun w1 => rNum_any 2 n (by omega) w1
  have wm : IntKind.u64.wrap ((n : Nat) : Int) = ((n : Nat) : Int) := u64in _ (by omega)
  obtain ⟨z2, HZ2⟩ : ∃ z2, Hid (ba (numL 2 n) = z2) := ⟨_, rfl⟩
  have q1 : ¬ 9223372036854775807 < 1 + z2.size := by
    have := numL_len 2 n
    rw [← HZ2.out, ba_size]; omega
  have HW0 : Hid (wantB n l2 0 = (⟨#[120]⟩ : ByteArray) ++ z2) := by show _ = _; rw [want_zero, HZ2.out]
  have HWS : Hid (∀ j, (wantB n l2 j).size ≤ 2000) := fun j => want_size _ _ _ (by rw [HLEN.out]; exact hm3)
  have HM3 := hid hm3
  clear hl0 hp y0 hbc hc him hcap hm3
  go_enter Try.func5, Try.ntmps5
  go_wp2_with (first
    | (go_at_call 12; refine (CA.out _).mono ?_; rintro e1 w1 ⟨rfl, rfl⟩)
    | (go_at_call 18; refine CPR.out.mono ?_; rintro e2 w2 ⟨rfl, hb⟩
       have B2 : Hid (Below w.heap.size w w2) := HBC.out.trans (hb.mono HBC.out.size)
       have X2 := hid (HXC.out.kept hb HXC.out.inside)
       clear hb)
    | (go_at_call 16; refine (CN2.out _).mono ?_; rintro e3 w3 ⟨v3, rfl, ho, hb⟩
       obtain ⟨A3, c3, b3, y3, _, _⟩ := ho.bytes (Nat.lt_of_lt_of_le HP.out (Nat.le_trans B2.out.size hb.size))
       have k3 := conv_is y3 HZ2.out
       have B3 : Hid (Below w.heap.size w w3) := B2.out.trans (hb.mono B2.out.size)
       have X3 := hid (X2.out.kept hb X2.out.inside)
       clear ho hb y3))
  clear k3 q1 ks wm kcs
  go_loopw [9, 10, 11] (fun z b i wr => ∃ (j : Nat) (zj : ByteArray) (bj : Bool), j ≤ n ∧ i = .int .i64 (j : Int) ∧ z = .string zj ∧ b = .bool bj ∧ Hid (zj = wantB n l2 j) ∧ Hid (bj = true ∨ ∀ i, i < j → l2.getD i 0 ≠ 99) ∧ Hid (Below w.heap.size w wr) ∧ Hid (Has wr w.heap.size 38 #[.int .i64 most, .int .i64 width])) (fun _ _ i _ => n - (intOf i).toNat)
  case atStart => exact ⟨0, _, false, by omega, rfl, rfl, rfl, HW0.out.symm, .inr fun i hi => absurd hi (by omega), B3, X3⟩
  case round =>
    obtain ⟨j, zj, bj, hj, rfl, rfl, rfl, HZ, HBJ, HB, HX⟩ := hrel
    by_cases hlt : j < n
    · have hA := (HA.out.2.1 (by omega)).1
      subst hA
      obtain ⟨x, HXJ⟩ : ∃ x, Hid (l2.getD j 0 = x) := ⟨_, rfl⟩
      have hq := (HA.out.kept HB.out (Nat.le_refl _)).2.2 j hlt
      rw [HXJ.out] at hq
      have c1 := hq.1
      have CN4 : Hid (∀ w1, Calls Try.prog 16 #[.int .i64 4, .int .u64 (x : Int)] w1 fun e w' => ∃ v, e = .returned v ∧ Fresh w1.heap.size w' v (numL 4 x) ∧ Below w1.heap.size w1 w') := fun w1 => rNum_any 4 x (by have := hq.2; omega) w1
      have wx : IntKind.u64.wrap (x : Int) = x := u64in _ (by have := hq.2; omega)
      obtain ⟨zx, HZX⟩ : ∃ zx, Hid (ba (numL 4 x) = zx) := ⟨_, rfl⟩
      have q2 : ¬ 9223372036854775807 < zj.size + zx.size := by
        have h1 := numL_len 4 x
        have h2 := HWS.out j
        rw [HZ.out, ← HZX.out, ba_size]; omega
      have HZN : Hid (zj ++ zx = wantB n l2 (j + 1)) := by
        show _ = _
        rw [want_next _ _ _ (by rw [HLEN.out]; exact hlt), HXJ.out, HZX.out, HZ.out]
      have hjM : (j : Int) < ((n : Nat) : Int) := by omega
      have hM3 : n ≤ 300 := HM3.out
      clear hq
      rcases bj with _ | _
      · have HF : Hid (∀ i, i < j → l2.getD i 0 ≠ 99) := by
          rcases HBJ.out with h | h
          · cases h
          · exact h
        by_cases h9 : x = 99
        · subst h9
          go_wp2_with (first
            | (go_at_call 16; refine (CN4.out _).mono ?_; rintro e3 w3 ⟨v3, rfl, ho, hb⟩
               obtain ⟨A3, c3, b3, y3, _, _⟩ := ho.bytes (Nat.lt_of_lt_of_le HP.out (Nat.le_trans HB.out.size hb.size))
               have k3 := conv_is y3 HZX.out
               have B3 : Hid (Below w.heap.size w w3) := HB.out.trans (hb.mono HB.out.size)
               have X3 := hid (HX.out.kept hb HX.out.inside)
               clear ho hb y3))
          go_roundw
          case rel => exact ⟨j + 1, zj ++ zx, true, by omega, by go_num, rfl, rfl, HZN, .inl rfl, B3, X3⟩
          case measure => simp [intOf]; omega
        · have h99 : ((x : Int) == 99) = false := by simp; omega
          have HF2 : Hid (∀ i, i < j + 1 → l2.getD i 0 ≠ 99) := by
            intro i hi
            rcases Nat.lt_or_ge i j with h | h
            · exact HF.out i h
            · obtain rfl : i = j := by omega
              rw [HXJ.out]; exact h9
          clear h9
          go_wp2_with (first
            | (go_at_call 16; refine (CN4.out _).mono ?_; rintro e3 w3 ⟨v3, rfl, ho, hb⟩
               obtain ⟨A3, c3, b3, y3, _, _⟩ := ho.bytes (Nat.lt_of_lt_of_le HP.out (Nat.le_trans HB.out.size hb.size))
               have k3 := conv_is y3 HZX.out
               have B3 : Hid (Below w.heap.size w w3) := HB.out.trans (hb.mono HB.out.size)
               have X3 := hid (HX.out.kept hb HX.out.inside)
               clear ho hb y3))
          go_roundw
          case rel => exact ⟨j + 1, zj ++ zx, false, by omega, by go_num, rfl, rfl, HZN, .inr HF2.out, B3, X3⟩
          case measure => simp [intOf]; omega
      · skip
        go_wp2_with (first
          | (go_at_call 16; refine (CN4.out _).mono ?_; rintro e3 w3 ⟨v3, rfl, ho, hb⟩
             obtain ⟨A3, c3, b3, y3, _, _⟩ := ho.bytes (Nat.lt_of_lt_of_le HP.out (Nat.le_trans HB.out.size hb.size))
             have k3 := conv_is y3 HZX.out
             have B3 : Hid (Below w.heap.size w w3) := HB.out.trans (hb.mono HB.out.size)
             have X3 := hid (HX.out.kept hb HX.out.inside)
             clear ho hb y3))
        go_roundw
        case rel => exact ⟨j + 1, zj ++ zx, true, by omega, by go_num, rfl, rfl, HZN, .inl rfl, B3, X3⟩
        case measure => simp [intOf]; omega
    · obtain rfl : n = j := by omega
      obtain rfl : bj = true := by
        rcases HBJ.out with h | h
        · exact h
        · obtain ⟨i, hi, h9⟩ := HCL.out
          exact absurd h9 (h i hi)
      have KC := conv_string s wr
      have ct := newTape_any _ _ _ _ _ _ (by rw [tl_length]; exact Nat.le_trans HSZ.out (by decide)) _ (conv_bytes s wr)
      have hbd := conv_below s wr
      generalize Lib.bytesWorld wr 5 s = wd at KC ct hbd
      generalize grownCap wr s.size 0 5 = cd at KC ct
      have CT := hid ct
      have BD : Hid (Below w.heap.size w wd) := HB.out.trans (hbd.mono HB.out.size)
      have XD := hid (HX.out.kept hbd HX.out.inside)
      have GX : Hid (w.heap.size < wd.heap.size) := XD.out.inside
      obtain ⟨ys, st, HRS⟩ : ∃ ys st, Hid (rowS (false, tl s) most width = (ys, st)) := ⟨_, _, rfl⟩
      have C1 : Hid (∀ w1 g, Tp w1 g st → Calls Try.prog 25 #[.pointer (some ⟨g, 0, none⟩)] w1 fun e w' => e = .returned (.int .i64 (st.2.length : Int)) ∧ w1 = w') := fun w1 g h => left_any g st w1 h
      have C2 : Hid (∀ w1 g, Tq w1 g st → Calls Try.prog 26 #[.pointer (some ⟨g, 0, none⟩)] w1 fun e w' => e = .returned (.int .i64 (st.2.length : Int)) ∧ w1 = w') := fun w1 g h => qLeft_any g st w1 h
      have C3 : Hid (∀ w1 g, Tp w1 g st → Calls Try.prog 27 #[.pointer (some ⟨g, 0, none⟩)] w1 fun e w' => e = .returned (.int .i64 (errS st)) ∧ w1 = w') := fun w1 g h => err_any g st w1 h
      have C4 : Hid (∀ w1 g, Tq w1 g st → Calls Try.prog 28 #[.pointer (some ⟨g, 0, none⟩)] w1 fun e w' => e = .returned (.int .i64 (errS st)) ∧ w1 = w') := fun w1 g h => qErr_any g st w1 h
      clear ct hbd hlt hj
      go_wp2_with (first
        | (go_at_call 20; refine CT.out.mono ?_; rintro e4 w4 ⟨gt, rfl, hg, ht, hb⟩
           have T4 := hid ht
           have B4 : Hid (Below w.heap.size w w4) := BD.out.trans (hb.mono BD.out.size)
           have X4 := hid (XD.out.kept hb XD.out.inside)
           have NXT : Hid (w.heap.size ≠ gt) := Nat.ne_of_lt (Nat.lt_of_lt_of_le GX.out hg)
           have KQ := conv_string s w4
           have ⟨hq, hbq⟩ := box_q s w4 (Nat.le_trans HSZ.out (by decide)) (Nat.lt_of_lt_of_le HP.out B4.out.size)
           have hgq0 := (conv_below s w4).size
           generalize Lib.bytesWorld w4 5 s = we at KQ hq hbq hgq0
           generalize grownCap w4 s.size 0 5 = ce at KQ hq hbq
           generalize hgq : we.heap.size = gq at hq hgq0
           generalize hWF : we.alloc (.cells #[.slice (some ⟨w4.heap.size, 0, none⟩) s.size ce, .bool false] 45) = wf at hq hbq
           have Q5 := hid hq
           have T5 := hid (T4.out.kept hbq)
           have X5 := hid (X4.out.kept hbq X4.out.inside)
           have B5 : Hid (Below w.heap.size w wf) := B4.out.trans (hbq.mono B4.out.size)
           have NTQ : Hid (gt ≠ gq) := Nat.ne_of_lt (Nat.lt_of_lt_of_le T4.out.inside hgq0)
           have NXQ : Hid (w.heap.size ≠ gq) := Nat.ne_of_lt (Nat.lt_of_lt_of_le X4.out.inside hgq0)
           have c5 : wf.cell? ⟨w.heap.size, 0, none⟩ = some (.int .i64 most) := X5.out.at_ 0
           have LT : Hid (w.heap.size ≤ gt) := Nat.le_of_lt (Nat.lt_of_lt_of_le GX.out hg)
           have LQ : Hid (w.heap.size ≤ gq) := Nat.le_trans B4.out.size hgq0
           clear hg ht hb hq hbq hgq0)
        | (go_at_call 21; refine (rowRows_any _ _ _ _ _ HIM.out _ T5.out X5.out NXT.out _ _ HRS.out).mono ?_; rintro e6 w6 ⟨v14, rfl, ho, ht, hg⟩
           obtain ⟨A14, c14, rfl, _⟩ := own_form ho
           have T6 := hid ht
           have Q6 := hid (Q5.out.aside T5.out (Ne.symm NTQ.out) hg)
           have X6 := hid (X5.out.grw hg NXT.out)
           have B6 : Hid (Below w.heap.size w w6) := Grw.below B5.out hg LT.out B5.out.size
           have O6 := hid ho
           have c60 : w6.cell? ⟨w.heap.size, 0, none⟩ = some (.int .i64 most) := X6.out.at_ 0
           have c61 : w6.cell? ⟨w.heap.size, 1, none⟩ = some (.int .i64 width) := X6.out.at_ 1
           clear ho ht hg c5)
        | (go_at_call 24; refine (qRow_any _ _ _ _ HIM.out _ Q6.out _ _ HRS.out).mono ?_; rintro e7 w7 ⟨v15, rfl, ho, hq, hg⟩
           obtain ⟨A15, c15, rfl, _⟩ := own_form ho
           have T7 := hid (T6.out.aside Q6.out NTQ.out hg)
           have Q7 := hid hq
           have B7 : Hid (Below w.heap.size w w7) := Grw.below B6.out hg LQ.out B6.out.size
           have O14 := hid (own_aside O6.out hg Q5.out.inside)
           have O15 := hid ho
           clear ho hq hg c60 c61)
        | (go_at_call 25; refine (C1.out _ _ T7.out).mono ?_; rintro e8 w8 ⟨rfl, rfl⟩)
        | (go_at_call 26; refine (C2.out _ _ Q7.out).mono ?_; rintro e8 w8 ⟨rfl, rfl⟩)
        | (go_at_call 27; refine (C3.out _ _ T7.out).mono ?_; rintro e8 w8 ⟨rfl, rfl⟩)
        | (go_at_call 28; refine (C4.out _ _ Q7.out).mono ?_; rintro e8 w8 ⟨rfl, rfl⟩))
      have HYL : Hid (ys.length ≤ 70000) := by
        show _ ≤ _
        have := rowS_len (false, tl s) most width
        rw [HRS.out] at this
        exact Nat.le_trans this (by decide)
      go_loopw [16] (fun i w9 => ∃ j : Nat, j ≤ ys.length ∧ i = .int .i64 (j : Int) ∧ Hid (w9.ownsRow wf.heap.size 22 1 (.slice A14 ys.length c14) ys.length (ys.map V64)) ∧ Hid (w9.ownsRow w6.heap.size 22 1 (.slice A15 ys.length c15) ys.length (ys.map V64)) ∧ Hid (Below w.heap.size w w9)) (fun i _ => ys.length - (intOf i).toNat)
      case atStart => exact ⟨0, Nat.zero_le _, rfl, O14, O15, B7⟩
      case round =>
        obtain ⟨j, hj, rfl, P1, P2, PB⟩ := hrel
        by_cases hlt : j < ys.length
        · obtain ⟨g1, hA1, d1⟩ := own_cell P1.out j hlt
          obtain ⟨g2, hA2, d2⟩ := own_cell P2.out j hlt
          subst hA1 hA2
          have hy7 : ys.length ≤ 70000 := HYL.out
          generalize ys.getD j 0 = y at d1 d2
          go_wp2
          go_quiet (fail)
          go_wp2
          go_roundw
          case rel => exact ⟨j + 1, by omega, by go_num, P1.out, P2.out, PB.out.drewN' _⟩
          case measure => simp [intOf]; omega
        · obtain rfl : j = ys.length := by omega
          have CW := hid (works_any _ (Nat.lt_of_lt_of_le HP.out PB.out.size))
          clear hlt
          go_wp2_with (first
            | (go_at_call 17; refine CW.out.mono ?_; rintro e8 w8 ⟨rfl, hb8⟩))
          go_ret
          exact ⟨rfl, PB.out.trans (hb8.mono PB.out.size)⟩
set_option maxRecDepth 100000 in
set_option maxHeartbeats 1000000 in
theorem rows_many_good (A : Option Addr) (n cap bb off : Nat) (l : List Nat) (s0 : ByteArray) (most width : Int) (him : I64 most) (hcap : n ≤ cap) (hm : 300 < n) (hc : ∀ i, i < 300 → (l.take 300).getD i 0 ≠ 99) (w : World) (hp : 0 < w.heap.size) (hl0 : NumsIn w A n bb off l) :
    Calls Try.prog 5 #[.slice A n cap, .string s0, .agg #[.int .i64 most, .int .i64 width]] w fun e w' => e = .returned (.bool true) ∧ Below w.heap.size w w' := by
  have HP := hid hp
  have hmin : (300 : Int) < (n : Int) := by omega
  obtain ⟨M, hM⟩ : ∃ M : Nat, M = 300 := ⟨_, rfl⟩
  have ks : ∀ w', (Instr.slice 36 (.slice A n cap) none (some (.int .i64 300)) none).run Try.prog w' = .ok (.slice A M cap) w' := fun w' => by rw [hM]; exact preRun32 A n cap 300 (by omega) hcap w'
  rw [← hM] at hc
  have hm3 : M ≤ 300 := by omega
  have HA := hid (hl0.cut M (by omega))
  generalize l.take M = l2 at HA hc
  have HLEN : Hid (l2.length = M) := HA.out.1
  have HCL := hid hc
  have HIM := hid him
  obtain ⟨s, HS⟩ : ∃ s, Hid (ba ((tl s0).take 1000) = s) := ⟨_, rfl⟩
  have CA : Hid (∀ w, Calls Try.prog 12 #[.string s0, .int .i64 1000] w fun e w' => e = .returned (.string s) ∧ w = w') := fun w => by rw [← HS.out]; exact cut_any s0 1000 (by omega) w
  have HSZ : Hid (s.size ≤ 1000) := by show _ ≤ _; rw [← HS.out, ba_size, List.length_take]; omega
  have HX0 : Hid (Has (w.alloc (.cells #[.int .i64 most, .int .i64 width] 38)) w.heap.size 38 #[.int .i64 most, .int .i64 width]) := Has.fresh w 38 _
  have HB0 : Hid (Below w.heap.size w (w.alloc (.cells #[.int .i64 most, .int .i64 width] 38))) := (Below.refl _ _).alloc (Nat.le_refl _) _
  generalize hWB : w.alloc (.cells #[.int .i64 most, .int .i64 width] 38) = wb at HX0 HB0
  obtain ⟨y0, hbc, kcs⟩ := lit_bytes wb [120] #[.int .u8 120] 1 rfl rfl
  generalize wb.alloc (.cells #[.int .u8 120] 5 (#[Value.int .u8 120].size, #[Value.int .u8 120].size + 1)) = wc at y0 hbc kcs
  have HBC : Hid (Below w.heap.size w wc) := HB0.out.trans (hbc.mono HB0.out.size)
  have HXC := hid (HX0.out.kept hbc HX0.out.inside)
  have CPR := hid (putRow_good _ [120] _ _ _ _ A M cap bb off l2 hm3 hc (by decide) wc y0 (HA.out.kept HBC.out (Nat.le_refl _)))
  have CN2 : Hid (∀ w1, Calls Try.prog 16 #[.int .i64 2, .int .u64 ((M : Nat) : Int)] w1 fun e w' => ∃ v, e = .returned v ∧ Fresh w1.heap.size w' v (numL 2 M) ∧ Below w1.heap.size w1 w') := fun w1 => rNum_any 2 M (by omega) w1
  have wm : IntKind.u64.wrap ((M : Nat) : Int) = ((M : Nat) : Int) := u64in _ (by omega)
  obtain ⟨z2, HZ2⟩ : ∃ z2, Hid (ba (numL 2 M) = z2) := ⟨_, rfl⟩
  have q1 : ¬ 9223372036854775807 < 1 + z2.size := by
    have := numL_len 2 M
    rw [← HZ2.out, ba_size]; omega
  have HW0 : Hid (wantB M l2 0 = (⟨#[120]⟩ : ByteArray) ++ z2) := by show _ = _; rw [want_zero, HZ2.out]
  have HWS : Hid (∀ j, (wantB M l2 j).size ≤ 2000) := fun j => want_size _ _ _ (by rw [HLEN.out]; exact hm3)
  have HM3 := hid hm3
  clear hl0 hp y0 hbc hc him hcap hm3 hM
  go_enter Try.func5, Try.ntmps5
  go_wp2_with (first
    | (go_at_call 12; refine (CA.out _).mono ?_; rintro e1 w1 ⟨rfl, rfl⟩)
    | (go_at_call 18; refine CPR.out.mono ?_; rintro e2 w2 ⟨v7, rfl, ho, hb⟩
       have O7 := hid ho
       have B2 : Hid (Below w.heap.size w w2) := HBC.out.trans (hb.mono HBC.out.size)
       have X2 := hid (HXC.out.kept hb HXC.out.inside)
       clear ho hb)
    | (go_at_call 16; refine (CN2.out _).mono ?_; rintro e3 w3 ⟨v3, rfl, ho, hb⟩
       obtain ⟨A3, c3, b3, y3, _, _⟩ := ho.bytes (Nat.lt_of_lt_of_le HP.out (Nat.le_trans B2.out.size hb.size))
       have k3 := conv_is y3 HZ2.out
       have B3 : Hid (Below w.heap.size w w3) := B2.out.trans (hb.mono B2.out.size)
       have X3 := hid (X2.out.kept hb X2.out.inside)
       have O73 := hid (fresh_hold O7.out hb)
       clear ho hb y3))
  clear k3 q1 ks wm kcs
  go_loopw [9, 10, 11] (fun z b i wr => ∃ (j : Nat) (zj : ByteArray) (bj : Bool), j ≤ M ∧ i = .int .i64 (j : Int) ∧ z = .string zj ∧ b = .bool bj ∧ Hid (zj = wantB M l2 j) ∧ Hid (bj = false) ∧ Hid (Below w.heap.size w wr) ∧ Hid (Has wr w.heap.size 38 #[.int .i64 most, .int .i64 width]) ∧ Hid (Fresh wc.heap.size wr v7 (([120] ++ numL 2 M) ++ rowB l2))) (fun _ _ i _ => M - (intOf i).toNat)
  case atStart => exact ⟨0, _, false, by omega, rfl, rfl, rfl, HW0.out.symm, rfl, B3, X3, O73⟩
  case round =>
    obtain ⟨j, zj, bj, hj, rfl, rfl, rfl, HZ, HBJ, HB, HX, HO⟩ := hrel
    by_cases hlt : j < M
    · have hA := (HA.out.2.1 (by omega)).1
      subst hA
      obtain ⟨x, HXJ⟩ : ∃ x, Hid (l2.getD j 0 = x) := ⟨_, rfl⟩
      have hq := (HA.out.kept HB.out (Nat.le_refl _)).2.2 j hlt
      rw [HXJ.out] at hq
      have c1 := hq.1
      have CN4 : Hid (∀ w1, Calls Try.prog 16 #[.int .i64 4, .int .u64 (x : Int)] w1 fun e w' => ∃ v, e = .returned v ∧ Fresh w1.heap.size w' v (numL 4 x) ∧ Below w1.heap.size w1 w') := fun w1 => rNum_any 4 x (by have := hq.2; omega) w1
      have wx : IntKind.u64.wrap (x : Int) = x := u64in _ (by have := hq.2; omega)
      obtain ⟨zx, HZX⟩ : ∃ zx, Hid (ba (numL 4 x) = zx) := ⟨_, rfl⟩
      have q2 : ¬ 9223372036854775807 < zj.size + zx.size := by
        have h1 := numL_len 4 x
        have h2 := HWS.out j
        rw [HZ.out, ← HZX.out, ba_size]; omega
      have HZN : Hid (zj ++ zx = wantB M l2 (j + 1)) := by
        show _ = _
        rw [want_next _ _ _ (by rw [HLEN.out]; exact hlt), HXJ.out, HZX.out, HZ.out]
      have hjM : (j : Int) < ((M : Nat) : Int) := by omega
      have hM3 : M ≤ 300 := HM3.out
      clear hq
      obtain rfl : bj = false := HBJ.out
      have h99 : ((x : Int) == 99) = false := by
        have := HCL.out j hlt
        rw [HXJ.out] at this
        simp; omega
      go_wp2_with (first
        | (go_at_call 16; refine (CN4.out _).mono ?_; rintro e3 w3 ⟨v3, rfl, ho, hb⟩
           obtain ⟨A3, c3, b3, y3, _, _⟩ := ho.bytes (Nat.lt_of_lt_of_le HP.out (Nat.le_trans HB.out.size hb.size))
           have k3 := conv_is y3 HZX.out
           have B3 : Hid (Below w.heap.size w w3) := HB.out.trans (hb.mono HB.out.size)
           have X3 := hid (HX.out.kept hb HX.out.inside)
           have O73 := hid (fresh_hold HO.out hb)
           clear ho hb y3))
      go_roundw
      case rel => exact ⟨j + 1, zj ++ zx, false, by omega, by go_num, rfl, rfl, HZN, rfl, B3, X3, O73⟩
      case measure => simp [intOf]; omega
    · obtain rfl : M = j := by omega
      obtain rfl : bj = false := HBJ.out
      obtain ⟨A7, c7, b7, y7, _, _⟩ := HO.out.bytes (Nat.lt_of_lt_of_le HP.out HB.out.size)
      have k7 : (convert 24 9 v7).run Try.prog wr = .ok (.string zj) wr := conv_is y7 (by
        rw [HZ.out, wantB, List.take_of_length_le (Nat.le_of_eq HLEN.out)])
      clear y7
      have KC := conv_string s wr
      have ct := newTape_any _ _ _ _ _ _ (by rw [tl_length]; exact Nat.le_trans HSZ.out (by decide)) _ (conv_bytes s wr)
      have hbd := conv_below s wr
      generalize Lib.bytesWorld wr 5 s = wd at KC ct hbd
      generalize grownCap wr s.size 0 5 = cd at KC ct
      have CT := hid ct
      have BD : Hid (Below w.heap.size w wd) := HB.out.trans (hbd.mono HB.out.size)
      have XD := hid (HX.out.kept hbd HX.out.inside)
      have GX : Hid (w.heap.size < wd.heap.size) := XD.out.inside
      obtain ⟨ys, st, HRS⟩ : ∃ ys st, Hid (rowS (false, tl s) most width = (ys, st)) := ⟨_, _, rfl⟩
      have C1 : Hid (∀ w1 g, Tp w1 g st → Calls Try.prog 25 #[.pointer (some ⟨g, 0, none⟩)] w1 fun e w' => e = .returned (.int .i64 (st.2.length : Int)) ∧ w1 = w') := fun w1 g h => left_any g st w1 h
      have C2 : Hid (∀ w1 g, Tq w1 g st → Calls Try.prog 26 #[.pointer (some ⟨g, 0, none⟩)] w1 fun e w' => e = .returned (.int .i64 (st.2.length : Int)) ∧ w1 = w') := fun w1 g h => qLeft_any g st w1 h
      have C3 : Hid (∀ w1 g, Tp w1 g st → Calls Try.prog 27 #[.pointer (some ⟨g, 0, none⟩)] w1 fun e w' => e = .returned (.int .i64 (errS st)) ∧ w1 = w') := fun w1 g h => err_any g st w1 h
      have C4 : Hid (∀ w1 g, Tq w1 g st → Calls Try.prog 28 #[.pointer (some ⟨g, 0, none⟩)] w1 fun e w' => e = .returned (.int .i64 (errS st)) ∧ w1 = w') := fun w1 g h => qErr_any g st w1 h
      clear ct hbd hlt hj
      go_wp2_with (first
        | (go_at_call 20; refine CT.out.mono ?_; rintro e4 w4 ⟨gt, rfl, hg, ht, hb⟩
           have T4 := hid ht
           have B4 : Hid (Below w.heap.size w w4) := BD.out.trans (hb.mono BD.out.size)
           have X4 := hid (XD.out.kept hb XD.out.inside)
           have NXT : Hid (w.heap.size ≠ gt) := Nat.ne_of_lt (Nat.lt_of_lt_of_le GX.out hg)
           have KQ := conv_string s w4
           have ⟨hq, hbq⟩ := box_q s w4 (Nat.le_trans HSZ.out (by decide)) (Nat.lt_of_lt_of_le HP.out B4.out.size)
           have hgq0 := (conv_below s w4).size
           generalize Lib.bytesWorld w4 5 s = we at KQ hq hbq hgq0
           generalize grownCap w4 s.size 0 5 = ce at KQ hq hbq
           generalize hgq : we.heap.size = gq at hq hgq0
           generalize hWF : we.alloc (.cells #[.slice (some ⟨w4.heap.size, 0, none⟩) s.size ce, .bool false] 45) = wf at hq hbq
           have Q5 := hid hq
           have T5 := hid (T4.out.kept hbq)
           have X5 := hid (X4.out.kept hbq X4.out.inside)
           have B5 : Hid (Below w.heap.size w wf) := B4.out.trans (hbq.mono B4.out.size)
           have NTQ : Hid (gt ≠ gq) := Nat.ne_of_lt (Nat.lt_of_lt_of_le T4.out.inside hgq0)
           have NXQ : Hid (w.heap.size ≠ gq) := Nat.ne_of_lt (Nat.lt_of_lt_of_le X4.out.inside hgq0)
           have c5 : wf.cell? ⟨w.heap.size, 0, none⟩ = some (.int .i64 most) := X5.out.at_ 0
           have LT : Hid (w.heap.size ≤ gt) := Nat.le_of_lt (Nat.lt_of_lt_of_le GX.out hg)
           have LQ : Hid (w.heap.size ≤ gq) := Nat.le_trans B4.out.size hgq0
           clear hg ht hb hq hbq hgq0)
        | (go_at_call 21; refine (rowRows_any _ _ _ _ _ HIM.out _ T5.out X5.out NXT.out _ _ HRS.out).mono ?_; rintro e6 w6 ⟨v14, rfl, ho, ht, hg⟩
           obtain ⟨A14, c14, rfl, _⟩ := own_form ho
           have T6 := hid ht
           have Q6 := hid (Q5.out.aside T5.out (Ne.symm NTQ.out) hg)
           have X6 := hid (X5.out.grw hg NXT.out)
           have B6 : Hid (Below w.heap.size w w6) := Grw.below B5.out hg LT.out B5.out.size
           have O6 := hid ho
           have c60 : w6.cell? ⟨w.heap.size, 0, none⟩ = some (.int .i64 most) := X6.out.at_ 0
           have c61 : w6.cell? ⟨w.heap.size, 1, none⟩ = some (.int .i64 width) := X6.out.at_ 1
           clear ho ht hg c5)
        | (go_at_call 24; refine (qRow_any _ _ _ _ HIM.out _ Q6.out _ _ HRS.out).mono ?_; rintro e7 w7 ⟨v15, rfl, ho, hq, hg⟩
           obtain ⟨A15, c15, rfl, _⟩ := own_form ho
           have T7 := hid (T6.out.aside Q6.out NTQ.out hg)
           have Q7 := hid hq
           have B7 : Hid (Below w.heap.size w w7) := Grw.below B6.out hg LQ.out B6.out.size
           have O14 := hid (own_aside O6.out hg Q5.out.inside)
           have O15 := hid ho
           clear ho hq hg c60 c61)
        | (go_at_call 25; refine (C1.out _ _ T7.out).mono ?_; rintro e8 w8 ⟨rfl, rfl⟩)
        | (go_at_call 26; refine (C2.out _ _ Q7.out).mono ?_; rintro e8 w8 ⟨rfl, rfl⟩)
        | (go_at_call 27; refine (C3.out _ _ T7.out).mono ?_; rintro e8 w8 ⟨rfl, rfl⟩)
        | (go_at_call 28; refine (C4.out _ _ Q7.out).mono ?_; rintro e8 w8 ⟨rfl, rfl⟩))
      have HYL : Hid (ys.length ≤ 70000) := by
        show _ ≤ _
        have := rowS_len (false, tl s) most width
        rw [HRS.out] at this
        exact Nat.le_trans this (by decide)
      go_loopw [16] (fun i w9 => ∃ j : Nat, j ≤ ys.length ∧ i = .int .i64 (j : Int) ∧ Hid (w9.ownsRow wf.heap.size 22 1 (.slice A14 ys.length c14) ys.length (ys.map V64)) ∧ Hid (w9.ownsRow w6.heap.size 22 1 (.slice A15 ys.length c15) ys.length (ys.map V64)) ∧ Hid (Below w.heap.size w w9)) (fun i _ => ys.length - (intOf i).toNat)
      case atStart => exact ⟨0, Nat.zero_le _, rfl, O14, O15, B7⟩
      case round =>
        obtain ⟨j, hj, rfl, P1, P2, PB⟩ := hrel
        by_cases hlt : j < ys.length
        · obtain ⟨g1, hA1, d1⟩ := own_cell P1.out j hlt
          obtain ⟨g2, hA2, d2⟩ := own_cell P2.out j hlt
          subst hA1 hA2
          have hy7 : ys.length ≤ 70000 := HYL.out
          generalize ys.getD j 0 = y at d1 d2
          go_wp2
          go_quiet (fail)
          go_wp2
          go_roundw
          case rel => exact ⟨j + 1, by omega, by go_num, P1.out, P2.out, PB.out.drewN' _⟩
          case measure => simp [intOf]; omega
        · obtain rfl : j = ys.length := by omega
          have CW := hid (works_any _ (Nat.lt_of_lt_of_le HP.out PB.out.size))
          clear hlt
          go_wp2_with (first
            | (go_at_call 17; refine CW.out.mono ?_; rintro e8 w8 ⟨rfl, hb8⟩))
          go_ret
          exact ⟨rfl, PB.out.trans (hb8.mono PB.out.size)⟩
set_option maxRecDepth 100000 in
set_option maxHeartbeats 1000000 in
theorem rows_many_bad (A : Option Addr) (n cap bb off : Nat) (l : List Nat) (s0 : ByteArray) (most width : Int) (him : I64 most) (hcap : n ≤ cap) (hm : 300 < n) (hc : ∃ i, i < 300 ∧ (l.take 300).getD i 0 = 99) (w : World) (hp : 0 < w.heap.size) (hl0 : NumsIn w A n bb off l) :
    Calls Try.prog 5 #[.slice A n cap, .string s0, .agg #[.int .i64 most, .int .i64 width]] w fun e w' => e = .returned (.bool true) ∧ Below w.heap.size w w' := by
  have HP := hid hp
  have hmin : (300 : Int) < (n : Int) := by omega
  obtain ⟨M, hM⟩ : ∃ M : Nat, M = 300 := ⟨_, rfl⟩
  have ks : ∀ w', (Instr.slice 36 (.slice A n cap) none (some (.int .i64 300)) none).run Try.prog w' = .ok (.slice A M cap) w' := fun w' => by rw [hM]; exact preRun32 A n cap 300 (by omega) hcap w'
  rw [← hM] at hc
  have hm3 : M ≤ 300 := by omega
  have HA := hid (hl0.cut M (by omega))
  generalize l.take M = l2 at HA hc
  have HLEN : Hid (l2.length = M) := HA.out.1
  have HCL := hid hc
  have HIM := hid him
  obtain ⟨s, HS⟩ : ∃ s, Hid (ba ((tl s0).take 1000) = s) := ⟨_, rfl⟩
  have CA : Hid (∀ w, Calls Try.prog 12 #[.string s0, .int .i64 1000] w fun e w' => e = .returned (.string s) ∧ w = w') := fun w => by rw [← HS.out]; exact cut_any s0 1000 (by omega) w
  have HSZ : Hid (s.size ≤ 1000) := by show _ ≤ _; rw [← HS.out, ba_size, List.length_take]; omega
  have HX0 : Hid (Has (w.alloc (.cells #[.int .i64 most, .int .i64 width] 38)) w.heap.size 38 #[.int .i64 most, .int .i64 width]) := Has.fresh w 38 _
  have HB0 : Hid (Below w.heap.size w (w.alloc (.cells #[.int .i64 most, .int .i64 width] 38))) := (Below.refl _ _).alloc (Nat.le_refl _) _
  generalize hWB : w.alloc (.cells #[.int .i64 most, .int .i64 width] 38) = wb at HX0 HB0
  obtain ⟨y0, hbc, kcs⟩ := lit_bytes wb [120] #[.int .u8 120] 1 rfl rfl
  generalize wb.alloc (.cells #[.int .u8 120] 5 (#[Value.int .u8 120].size, #[Value.int .u8 120].size + 1)) = wc at y0 hbc kcs
  have HBC : Hid (Below w.heap.size w wc) := HB0.out.trans (hbc.mono HB0.out.size)
  have HXC := hid (HX0.out.kept hbc HX0.out.inside)
  have CPR := hid (putRow_bad _ [120] _ _ _ _ A M cap bb off l2 hm3 hc (by decide) wc y0 (HA.out.kept HBC.out (Nat.le_refl _)))
  have CN2 : Hid (∀ w1, Calls Try.prog 16 #[.int .i64 2, .int .u64 ((M : Nat) : Int)] w1 fun e w' => ∃ v, e = .returned v ∧ Fresh w1.heap.size w' v (numL 2 M) ∧ Below w1.heap.size w1 w') := fun w1 => rNum_any 2 M (by omega) w1
  have wm : IntKind.u64.wrap ((M : Nat) : Int) = ((M : Nat) : Int) := u64in _ (by omega)
  obtain ⟨z2, HZ2⟩ : ∃ z2, Hid (ba (numL 2 M) = z2) := ⟨_, rfl⟩
  have q1 : ¬ 9223372036854775807 < 1 + z2.size := by
    have := numL_len 2 M
    rw [← HZ2.out, ba_size]; omega
  have HW0 : Hid (wantB M l2 0 = (⟨#[120]⟩ : ByteArray) ++ z2) := by show _ = _; rw [want_zero, HZ2.out]
  have HWS : Hid (∀ j, (wantB M l2 j).size ≤ 2000) := fun j => want_size _ _ _ (by rw [HLEN.out]; exact hm3)
  have HM3 := hid hm3
  clear hl0 hp y0 hbc hc him hcap hm3 hM
  go_enter Try.func5, Try.ntmps5
  go_wp2_with (first
    | (go_at_call 12; refine (CA.out _).mono ?_; rintro e1 w1 ⟨rfl, rfl⟩)
    | (go_at_call 18; refine CPR.out.mono ?_; rintro e2 w2 ⟨rfl, hb⟩
       have B2 : Hid (Below w.heap.size w w2) := HBC.out.trans (hb.mono HBC.out.size)
       have X2 := hid (HXC.out.kept hb HXC.out.inside)
       clear hb)
    | (go_at_call 16; refine (CN2.out _).mono ?_; rintro e3 w3 ⟨v3, rfl, ho, hb⟩
       obtain ⟨A3, c3, b3, y3, _, _⟩ := ho.bytes (Nat.lt_of_lt_of_le HP.out (Nat.le_trans B2.out.size hb.size))
       have k3 := conv_is y3 HZ2.out
       have B3 : Hid (Below w.heap.size w w3) := B2.out.trans (hb.mono B2.out.size)
       have X3 := hid (X2.out.kept hb X2.out.inside)
       clear ho hb y3))
  clear k3 q1 ks wm kcs
  go_loopw [9, 10, 11] (fun z b i wr => ∃ (j : Nat) (zj : ByteArray) (bj : Bool), j ≤ M ∧ i = .int .i64 (j : Int) ∧ z = .string zj ∧ b = .bool bj ∧ Hid (zj = wantB M l2 j) ∧ Hid (bj = true ∨ ∀ i, i < j → l2.getD i 0 ≠ 99) ∧ Hid (Below w.heap.size w wr) ∧ Hid (Has wr w.heap.size 38 #[.int .i64 most, .int .i64 width])) (fun _ _ i _ => M - (intOf i).toNat)
  case atStart => exact ⟨0, _, false, by omega, rfl, rfl, rfl, HW0.out.symm, .inr fun i hi => absurd hi (by omega), B3, X3⟩
  case round =>
    obtain ⟨j, zj, bj, hj, rfl, rfl, rfl, HZ, HBJ, HB, HX⟩ := hrel
    by_cases hlt : j < M
    · have hA := (HA.out.2.1 (by omega)).1
      subst hA
      obtain ⟨x, HXJ⟩ : ∃ x, Hid (l2.getD j 0 = x) := ⟨_, rfl⟩
      have hq := (HA.out.kept HB.out (Nat.le_refl _)).2.2 j hlt
      rw [HXJ.out] at hq
      have c1 := hq.1
      have CN4 : Hid (∀ w1, Calls Try.prog 16 #[.int .i64 4, .int .u64 (x : Int)] w1 fun e w' => ∃ v, e = .returned v ∧ Fresh w1.heap.size w' v (numL 4 x) ∧ Below w1.heap.size w1 w') := fun w1 => rNum_any 4 x (by have := hq.2; omega) w1
      have wx : IntKind.u64.wrap (x : Int) = x := u64in _ (by have := hq.2; omega)
      obtain ⟨zx, HZX⟩ : ∃ zx, Hid (ba (numL 4 x) = zx) := ⟨_, rfl⟩
      have q2 : ¬ 9223372036854775807 < zj.size + zx.size := by
        have h1 := numL_len 4 x
        have h2 := HWS.out j
        rw [HZ.out, ← HZX.out, ba_size]; omega
      have HZN : Hid (zj ++ zx = wantB M l2 (j + 1)) := by
        show _ = _
        rw [want_next _ _ _ (by rw [HLEN.out]; exact hlt), HXJ.out, HZX.out, HZ.out]
      have hjM : (j : Int) < ((M : Nat) : Int) := by omega
      have hM3 : M ≤ 300 := HM3.out
      clear hq
      rcases bj with _ | _
      · have HF : Hid (∀ i, i < j → l2.getD i 0 ≠ 99) := by
          rcases HBJ.out with h | h
          · cases h
          · exact h
        by_cases h9 : x = 99
        · subst h9
          go_wp2_with (first
            | (go_at_call 16; refine (CN4.out _).mono ?_; rintro e3 w3 ⟨v3, rfl, ho, hb⟩
               obtain ⟨A3, c3, b3, y3, _, _⟩ := ho.bytes (Nat.lt_of_lt_of_le HP.out (Nat.le_trans HB.out.size hb.size))
               have k3 := conv_is y3 HZX.out
               have B3 : Hid (Below w.heap.size w w3) := HB.out.trans (hb.mono HB.out.size)
               have X3 := hid (HX.out.kept hb HX.out.inside)
               clear ho hb y3))
          go_roundw
          case rel => exact ⟨j + 1, zj ++ zx, true, by omega, by go_num, rfl, rfl, HZN, .inl rfl, B3, X3⟩
          case measure => simp [intOf]; omega
        · have h99 : ((x : Int) == 99) = false := by simp; omega
          have HF2 : Hid (∀ i, i < j + 1 → l2.getD i 0 ≠ 99) := by
            intro i hi
            rcases Nat.lt_or_ge i j with h | h
            · exact HF.out i h
            · obtain rfl : i = j := by omega
              rw [HXJ.out]; exact h9
          clear h9
          go_wp2_with (first
            | (go_at_call 16; refine (CN4.out _).mono ?_; rintro e3 w3 ⟨v3, rfl, ho, hb⟩
               obtain ⟨A3, c3, b3, y3, _, _⟩ := ho.bytes (Nat.lt_of_lt_of_le HP.out (Nat.le_trans HB.out.size hb.size))
               have k3 := conv_is y3 HZX.out
               have B3 : Hid (Below w.heap.size w w3) := HB.out.trans (hb.mono HB.out.size)
               have X3 := hid (HX.out.kept hb HX.out.inside)
               clear ho hb y3))
          go_roundw
          case rel => exact ⟨j + 1, zj ++ zx, false, by omega, by go_num, rfl, rfl, HZN, .inr HF2.out, B3, X3⟩
          case measure => simp [intOf]; omega
      · skip
        go_wp2_with (first
          | (go_at_call 16; refine (CN4.out _).mono ?_; rintro e3 w3 ⟨v3, rfl, ho, hb⟩
             obtain ⟨A3, c3, b3, y3, _, _⟩ := ho.bytes (Nat.lt_of_lt_of_le HP.out (Nat.le_trans HB.out.size hb.size))
             have k3 := conv_is y3 HZX.out
             have B3 : Hid (Below w.heap.size w w3) := HB.out.trans (hb.mono HB.out.size)
             have X3 := hid (HX.out.kept hb HX.out.inside)
             clear ho hb y3))
        go_roundw
        case rel => exact ⟨j + 1, zj ++ zx, true, by omega, by go_num, rfl, rfl, HZN, .inl rfl, B3, X3⟩
        case measure => simp [intOf]; omega
    · obtain rfl : M = j := by omega
      obtain rfl : bj = true := by
        rcases HBJ.out with h | h
        · exact h
        · obtain ⟨i, hi, h9⟩ := HCL.out
          exact absurd h9 (h i hi)
      have KC := conv_string s wr
      have ct := newTape_any _ _ _ _ _ _ (by rw [tl_length]; exact Nat.le_trans HSZ.out (by decide)) _ (conv_bytes s wr)
      have hbd := conv_below s wr
      generalize Lib.bytesWorld wr 5 s = wd at KC ct hbd
      generalize grownCap wr s.size 0 5 = cd at KC ct
      have CT := hid ct
      have BD : Hid (Below w.heap.size w wd) := HB.out.trans (hbd.mono HB.out.size)
      have XD := hid (HX.out.kept hbd HX.out.inside)
      have GX : Hid (w.heap.size < wd.heap.size) := XD.out.inside
      obtain ⟨ys, st, HRS⟩ : ∃ ys st, Hid (rowS (false, tl s) most width = (ys, st)) := ⟨_, _, rfl⟩
      have C1 : Hid (∀ w1 g, Tp w1 g st → Calls Try.prog 25 #[.pointer (some ⟨g, 0, none⟩)] w1 fun e w' => e = .returned (.int .i64 (st.2.length : Int)) ∧ w1 = w') := fun w1 g h => left_any g st w1 h
      have C2 : Hid (∀ w1 g, Tq w1 g st → Calls Try.prog 26 #[.pointer (some ⟨g, 0, none⟩)] w1 fun e w' => e = .returned (.int .i64 (st.2.length : Int)) ∧ w1 = w') := fun w1 g h => qLeft_any g st w1 h
      have C3 : Hid (∀ w1 g, Tp w1 g st → Calls Try.prog 27 #[.pointer (some ⟨g, 0, none⟩)] w1 fun e w' => e = .returned (.int .i64 (errS st)) ∧ w1 = w') := fun w1 g h => err_any g st w1 h
      have C4 : Hid (∀ w1 g, Tq w1 g st → Calls Try.prog 28 #[.pointer (some ⟨g, 0, none⟩)] w1 fun e w' => e = .returned (.int .i64 (errS st)) ∧ w1 = w') := fun w1 g h => qErr_any g st w1 h
      clear ct hbd hlt hj
      go_wp2_with (first
        | (go_at_call 20; refine CT.out.mono ?_; rintro e4 w4 ⟨gt, rfl, hg, ht, hb⟩
           have T4 := hid ht
           have B4 : Hid (Below w.heap.size w w4) := BD.out.trans (hb.mono BD.out.size)
           have X4 := hid (XD.out.kept hb XD.out.inside)
           have NXT : Hid (w.heap.size ≠ gt) := Nat.ne_of_lt (Nat.lt_of_lt_of_le GX.out hg)
           have KQ := conv_string s w4
           have ⟨hq, hbq⟩ := box_q s w4 (Nat.le_trans HSZ.out (by decide)) (Nat.lt_of_lt_of_le HP.out B4.out.size)
           have hgq0 := (conv_below s w4).size
           generalize Lib.bytesWorld w4 5 s = we at KQ hq hbq hgq0
           generalize grownCap w4 s.size 0 5 = ce at KQ hq hbq
           generalize hgq : we.heap.size = gq at hq hgq0
           generalize hWF : we.alloc (.cells #[.slice (some ⟨w4.heap.size, 0, none⟩) s.size ce, .bool false] 45) = wf at hq hbq
           have Q5 := hid hq
           have T5 := hid (T4.out.kept hbq)
           have X5 := hid (X4.out.kept hbq X4.out.inside)
           have B5 : Hid (Below w.heap.size w wf) := B4.out.trans (hbq.mono B4.out.size)
           have NTQ : Hid (gt ≠ gq) := Nat.ne_of_lt (Nat.lt_of_lt_of_le T4.out.inside hgq0)
           have NXQ : Hid (w.heap.size ≠ gq) := Nat.ne_of_lt (Nat.lt_of_lt_of_le X4.out.inside hgq0)
           have c5 : wf.cell? ⟨w.heap.size, 0, none⟩ = some (.int .i64 most) := X5.out.at_ 0
           have LT : Hid (w.heap.size ≤ gt) := Nat.le_of_lt (Nat.lt_of_lt_of_le GX.out hg)
           have LQ : Hid (w.heap.size ≤ gq) := Nat.le_trans B4.out.size hgq0
           clear hg ht hb hq hbq hgq0)
        | (go_at_call 21; refine (rowRows_any _ _ _ _ _ HIM.out _ T5.out X5.out NXT.out _ _ HRS.out).mono ?_; rintro e6 w6 ⟨v14, rfl, ho, ht, hg⟩
           obtain ⟨A14, c14, rfl, _⟩ := own_form ho
           have T6 := hid ht
           have Q6 := hid (Q5.out.aside T5.out (Ne.symm NTQ.out) hg)
           have X6 := hid (X5.out.grw hg NXT.out)
           have B6 : Hid (Below w.heap.size w w6) := Grw.below B5.out hg LT.out B5.out.size
           have O6 := hid ho
           have c60 : w6.cell? ⟨w.heap.size, 0, none⟩ = some (.int .i64 most) := X6.out.at_ 0
           have c61 : w6.cell? ⟨w.heap.size, 1, none⟩ = some (.int .i64 width) := X6.out.at_ 1
           clear ho ht hg c5)
        | (go_at_call 24; refine (qRow_any _ _ _ _ HIM.out _ Q6.out _ _ HRS.out).mono ?_; rintro e7 w7 ⟨v15, rfl, ho, hq, hg⟩
           obtain ⟨A15, c15, rfl, _⟩ := own_form ho
           have T7 := hid (T6.out.aside Q6.out NTQ.out hg)
           have Q7 := hid hq
           have B7 : Hid (Below w.heap.size w w7) := Grw.below B6.out hg LQ.out B6.out.size
           have O14 := hid (own_aside O6.out hg Q5.out.inside)
           have O15 := hid ho
           clear ho hq hg c60 c61)
        | (go_at_call 25; refine (C1.out _ _ T7.out).mono ?_; rintro e8 w8 ⟨rfl, rfl⟩)
        | (go_at_call 26; refine (C2.out _ _ Q7.out).mono ?_; rintro e8 w8 ⟨rfl, rfl⟩)
        | (go_at_call 27; refine (C3.out _ _ T7.out).mono ?_; rintro e8 w8 ⟨rfl, rfl⟩)
        | (go_at_call 28; refine (C4.out _ _ Q7.out).mono ?_; rintro e8 w8 ⟨rfl, rfl⟩))
      have HYL : Hid (ys.length ≤ 70000) := by
        show _ ≤ _
        have := rowS_len (false, tl s) most width
        rw [HRS.out] at this
        exact Nat.le_trans this (by decide)
      go_loopw [16] (fun i w9 => ∃ j : Nat, j ≤ ys.length ∧ i = .int .i64 (j : Int) ∧ Hid (w9.ownsRow wf.heap.size 22 1 (.slice A14 ys.length c14) ys.length (ys.map V64)) ∧ Hid (w9.ownsRow w6.heap.size 22 1 (.slice A15 ys.length c15) ys.length (ys.map V64)) ∧ Hid (Below w.heap.size w w9)) (fun i _ => ys.length - (intOf i).toNat)
      case atStart => exact ⟨0, Nat.zero_le _, rfl, O14, O15, B7⟩
      case round =>
        obtain ⟨j, hj, rfl, P1, P2, PB⟩ := hrel
        by_cases hlt : j < ys.length
        · obtain ⟨g1, hA1, d1⟩ := own_cell P1.out j hlt
          obtain ⟨g2, hA2, d2⟩ := own_cell P2.out j hlt
          subst hA1 hA2
          have hy7 : ys.length ≤ 70000 := HYL.out
          generalize ys.getD j 0 = y at d1 d2
          go_wp2
          go_quiet (fail)
          go_wp2
          go_roundw
          case rel => exact ⟨j + 1, by omega, by go_num, P1.out, P2.out, PB.out.drewN' _⟩
          case measure => simp [intOf]; omega
        · obtain rfl : j = ys.length := by omega
          have CW := hid (works_any _ (Nat.lt_of_lt_of_le HP.out PB.out.size))
          clear hlt
          go_wp2_with (first
            | (go_at_call 17; refine CW.out.mono ?_; rintro e8 w8 ⟨rfl, hb8⟩))
          go_ret
          exact ⟨rfl, PB.out.trans (hb8.mono PB.out.size)⟩
theorem rowsLaw_any (A : Option Addr) (n cap bb off : Nat) (l : List Nat) (s0 : ByteArray) (most width : Int) (him : I64 most) (hcap : n ≤ cap) (w : World) (hp : 0 < w.heap.size) (hl : NumsIn w A n bb off l) :
    Calls Try.prog 5 #[.slice A n cap, .string s0, .agg #[.int .i64 most, .int .i64 width]] w fun e w' => e = .returned (.bool true) ∧ Below w.heap.size w w' := by
  rcases Nat.lt_or_ge 300 n with h | h
  · by_cases hc : ∃ i, i < 300 ∧ (l.take 300).getD i 0 = 99
    · exact rows_many_bad A n cap bb off l s0 most width him hcap h hc w hp hl
    · exact rows_many_good A n cap bb off l s0 most width him hcap h (fun i hi e => hc ⟨i, hi, e⟩) w hp hl
  · by_cases hc : ∃ i, i < n ∧ (l.take n).getD i 0 = 99
    · exact rows_few_bad A n cap bb off l s0 most width him hcap h hc w hp hl
    · exact rows_few_good A n cap bb off l s0 most width him hcap h (fun i hi e => hc ⟨i, hi, e⟩) w hp hl
end Go.Proofs.Ytdmdddmfiankhaa
