/- ignore: List.Lines; the laws' few, joined: what each call does. Conditions: a list that Parse made; for joined at most 64 texts of at most 4000 bytes. -/
import Derived.Test.YtpipkgkfhbagmaaDoorLK
import Derived.Test.YtpipkgkfhbagmaaDoorJQ
namespace Go.Proofs.YtpipkgkfhbagmaaDoor.Glob
open Go.RowKit Go.Maps
set_option maxRecDepth 100000 in
set_option maxHeartbeats 1000000 in
theorem ilines_any (B L : Nat) (ps : List By) (w : World) (h : ListIs B w L ps) (hn : ps.length ≤ 64) :
    Calls Tryd.prog 15 #[ptrV L] w fun e w' => (∃ v, e = .returned v ∧ Ar w.heap.size w' v ps) ∧ Below w.heap.size w w' := by
  have HL := hid h
  have HLN := hid (len_any B L ps w h)
  obtain ⟨n, hnp⟩ : ∃ n, ps.length = n := ⟨_, rfl⟩
  have HNP := hid hnp
  rw [hnp] at HLN hn
  unfold ptrV at HLN
  unfold ptrV
  clear h hnp
  go_enter Tryd.func15, Tryd.ntmps15
  go_wp2_with (go_at_call 13; refine HLN.out.mono ?_; rintro e1 w1 ⟨rfl, rfl⟩)
  go_loopw [3, 7] (fun l i wr => ∃ (k : Nat) (A : Option Addr) (c : Nat), i = .int .i64 (k : Int) ∧ l = .slice A k c ∧ k ≤ n ∧ Hid (Ar w.heap.size wr (.slice A k c) (ps.take k)) ∧ Hid (Below w.heap.size w wr))
    (fun _ i _ => n - (intOf i).toNat)
  case atStart => exact ⟨0, none, 0, rfl, rfl, Nat.zero_le _, World.ownsRow_nil _ _ _ _, Below.refl _ _⟩
  case round =>
    obtain ⟨k, A, c, rfl, rfl, hk, HA, HB⟩ := hrel
    by_cases hlt : k < n
    · have hlt2 : k < ps.length := by rw [HNP.out]; exact hlt
      obtain ⟨v, hLh, hLp⟩ := HL.out.below HB.out
      obtain ⟨g, cap, rfl, hg, hcell⟩ := hLp.at_ (by omega)
      rw [HNP.out] at hLh
      obtain ⟨pg, p, c0, hpat, hpl⟩ := hcell k hlt2
      have cL := hLh.at_ 0
      have HTX := hid (Text_yes hpat)
      have hkn : (k : Int) < (n : Int) := by omega
      obtain ⟨Wb, hWb⟩ : ∃ Wb, wr.alloc (.cells #[.string (ba ps[k])] 9) = Wb := ⟨_, rfl⟩
      have bb : Below wr.heap.size wr Wb := hWb ▸ (Below.refl _ _).alloc (Nat.le_refl _) _
      have hfb : Has Wb wr.heap.size 9 #[.string (ba ps[k])] := hWb ▸ Has.fresh _ _ _
      obtain ⟨v5, w5, hr5, ha5, _, hg5, _⟩ := append_str (own_below HA.out bb) hfb (by simp; omega) (Nat.le_trans HB.out.size bb.size) 28
      have hts : ps.take k ++ [ps[k]] = ps.take (k + 1) := by rw [List.take_succ_eq_append_getElem hlt2]
      rw [hts] at ha5
      have HR5 := hid hr5
      have HA5 := hid ha5
      have HB5 : Hid (Below w.heap.size w w5) := grown_below hg5 (HB.out.thenG bb) (fun j hj => (own_inside HA.out j hj).1) (Nat.le_trans HB.out.size bb.size)
      obtain ⟨A5, c5, hv5⟩ := own_form ha5
      rw [List.length_take, Nat.min_eq_left (by omega)] at hv5
      subst hv5
      unfold ptrV at c0
      generalize ps[k] = s at HTX hWb
      clear hpat hpl hcell hLp hLh bb hfb hr5 ha5 hg5 hts
      go_wp2_with (first
        | (go_at_call 29; refine HTX.out.mono ?_; rintro e3 w3 ⟨rfl, rfl⟩)
        | (at_builtin; refine wpList_append_run rfl (.tmp 10) (.tmp 19) 28 28 rfl ⟨_, w5, HR5.out, ?_⟩))
      exact ⟨⟨k + 1, A5, c5, by go_num, rfl, by omega, HA5.out, HB5.out⟩, by simp [intOf]; omega⟩
    · have HK : Hid (k = ps.length) := by show _ = _; rw [HNP.out]; omega
      go_wp2
      go_ret
      refine ⟨⟨_, rfl, ?_⟩, HB.out⟩
      have := HA.out
      rw [HK.out, List.take_length] at this
      rw [HK.out]; exact this
/-- Texts, each with a byte 10 behind it. -/
def joinL (ps : List By) : By := ps.flatMap (· ++ [10])
theorem Ar.at_ {B : Nat} {w : World} {v : Value} {l : List By} (h : Ar B w v l) (h0 : 0 < l.length) : ∃ g c, v = .slice (some ⟨g, 0, none⟩) l.length c ∧ g < w.heap.size ∧ ∀ k (hk : k < l.length), w.cell? ⟨g, k, none⟩ = some (.string (ba l[k])) := by
  obtain ⟨g, c, h1, _, h3, _, h5⟩ := own_cells h h0
  exact ⟨g, c, h1, h3, fun k hk => h5 k _ (by simp [strV, hk])⟩
theorem joinL_len {ps : List By} {m : Nat} (h : ∀ s ∈ ps, s.length ≤ m) : (joinL ps).length ≤ ps.length * (m + 1) := by
  induction ps with
  | nil => simp [joinL]
  | cons s ps ih =>
    have e : joinL (s :: ps) = (s ++ [10]) ++ joinL ps := by simp [joinL]
    rw [e, List.length_append, List.length_append, List.length_cons (a := s), List.length_singleton, Nat.add_mul, Nat.one_mul]
    have := ih (fun t ht => h t (by simp [ht]))
    have := h s (by simp)
    omega
theorem ba_app (a b : By) : ba a ++ ba b = ba (a ++ b) := by
  apply ByteArray.ext; simp [ba]
theorem joinL_snoc (ps : List By) (s : By) : joinL (ps ++ [s]) = joinL ps ++ s ++ [10] := by simp [joinL]
set_option maxRecDepth 100000 in
set_option maxHeartbeats 1000000 in
theorem joined_any (B : Nat) (v : Value) (ps : List By) (w : World) (h : Ar B w v ps) (hn : ps.length ≤ 64) (hs : ∀ s ∈ ps, s.length ≤ 4000) :
    Calls Tryd.prog 16 #[v] w fun e w' => e = .returned (.string (ba (joinL ps))) ∧ w = w' := by
  have HA := hid h
  obtain ⟨A, c, hv⟩ := own_form h
  obtain ⟨n, hnp⟩ : ∃ n, ps.length = n := ⟨_, rfl⟩
  have HNP := hid hnp
  rw [hnp] at hv hn
  subst hv
  have HS := hid hs
  clear h hnp hs
  go_enter Tryd.func16, Tryd.ntmps16
  go_wp2
  go_loopw [3, 4] (fun s0 i wr => ∃ (k : Nat), i = .int .i64 (k : Int) ∧ s0 = .string (ba (joinL (ps.take k))) ∧ k ≤ n ∧ w = wr)
    (fun _ i _ => n - (intOf i).toNat)
  case atStart => exact ⟨0, rfl, rfl, Nat.zero_le _, rfl⟩
  case round =>
    obtain ⟨k, rfl, rfl, hk, rfl⟩ := hrel
    by_cases hlt : k < n
    · have hlt2 : k < ps.length := by rw [HNP.out]; exact hlt
      obtain ⟨g, cap, hve, hg, hcell⟩ := HA.out.at_ (by omega)
      rw [HNP.out] at hve
      simp only [Value.slice.injEq, true_and] at hve
      obtain ⟨rfl, rfl⟩ := hve
      have c0 := hcell k hlt2
      have hkn : (k : Int) < (n : Int) := by omega
      have hjl : (joinL (ps.take k)).length ≤ 300000 := by
        have := joinL_len (ps := ps.take k) (m := 4000) (fun s hs => HS.out s (List.mem_of_mem_take hs))
        rw [List.length_take, Nat.min_eq_left (by omega)] at this
        have : k * (4000 + 1) ≤ 64 * 4001 := Nat.mul_le_mul_right _ (by omega)
        omega
      have hsl : ps[k].length ≤ 4000 := HS.out _ (List.getElem_mem hlt2)
      have hts : Hid (joinL (ps.take (k + 1)) = joinL (ps.take k) ++ ps[k] ++ [10]) := by show _ = _; rw [List.take_succ_eq_append_getElem hlt2, joinL_snoc]
      generalize ps[k] = s at c0 hsl hts
      generalize joinL (ps.take k) = u at hjl hts
      have zu := ba_size u
      have zs := ba_size s
      have a1 : ba u ++ ba s = ba (u ++ s) := ba_app u s
      have a2 : ba (u ++ s) ++ (⟨#[10]⟩ : ByteArray) = ba (u ++ s ++ [10]) := ba_app (u ++ s) [10]
      have z2 : (ba (u ++ s)).size = u.length + s.length := by rw [ba_size, List.length_append]
      clear hcell hg
      go_wp2
      exact ⟨⟨k + 1, by go_num, by rw [hts.out, List.append_assoc], by omega, trivial⟩, by simp [intOf]; omega⟩
    · have HK : Hid (k = ps.length) := by show _ = _; rw [HNP.out]; omega
      go_wp2
      go_ret
      rw [HK.out, List.take_length]
      exact ⟨rfl, rfl⟩
end Go.Proofs.YtpipkgkfhbagmaaDoor.Glob
