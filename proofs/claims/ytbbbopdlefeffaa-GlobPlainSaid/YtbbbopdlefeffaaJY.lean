/- The law GlobPlain: plain, and its own walk. No conditions. -/
import Derived.Test.YtbbbopdlefeffaaJX
namespace Go.Proofs.Ytbbbopdlefeffaa.Glob
open Go.RowKit
def V8 (x : UInt8) : Value := .int .u8 (b8 x)
/-- Bytes of the call's own. -/
def Bs (B : Nat) (w : World) (v : Value) (ys : By) : Prop := w.ownsRow B 5 1 v ys.length (ys.map V8)
theorem Bs.form {B : Nat} {w : World} {v : Value} {ys : By} (h : Bs B w v ys) : ∃ A c, v = .slice A ys.length c := by
  rcases h.2 with ⟨h1, h2⟩ | ⟨g, c, cur, h1, _⟩
  · exact ⟨none, 0, by rw [h1, h2]⟩
  · exact ⟨some ⟨g, 0, none⟩, c, h1⟩
theorem Bs.stays {B : Nat} {w w' : World} {v : Value} {ys : By} (h : Bs B w v ys) (hb : Below w.heap.size w w') : Bs B w' v ys := by
  refine ⟨h.1, ?_⟩
  rcases h.2 with h1 | ⟨g, c, cur, h1, hB, h3, h4⟩
  · exact .inl h1
  · exact .inr ⟨g, c, cur, h1, hB, (hb.block g (Array.getElem?_eq_some_iff.1 h3).1).trans h3, h4⟩
theorem info8 : (Try.prog.info? 5).map (fun i => (i.zero, i.size, i.bytes)) = some (some (.int .u8 0), 1, 1) := by kernel_rfl
theorem append_b1 (w : World) (B : Nat) (v : Value) (ys : By) (h : Bs B w v ys) (c : UInt8) (a : Addr) (h0 : w.cell? (a.add 0) = some (V8 c)) (hn : ys.length ≤ 1000) (hB : B ≤ w.heap.size) (ty : TypeId) :
    ∃ v' w', (Builtin.append_ #[65, 65] ty #[v, .slice (some a) 1 1]).run Try.prog w = .ok v' w' ∧ Bs B w' v' (ys ++ [c]) ∧ ∀ a0, Below B a0 w → Below B a0 w' := by
  obtain ⟨i0, hi, hz0, hz1, hz2⟩ := info_parts info8
  obtain ⟨v', w', hr, ho', hg, _, _⟩ := run_append_own_at (P := Try.prog) w B 65 ty 5 i0 (.int .u8 0) 1 1 Try.underlying65 hi hz0 hz1 hz2 rfl (by omega) v ys.length (ys.map V8) h a 1 1 [V8 c] rfl (fun j u' hj => by
      match j, hj with
      | 0, hj => obtain rfl := Option.some.inj hj; exact h0
      | j + 1, hj => simp at hj) (fun x hx => by simp only [List.mem_singleton] at hx; subst hx; rfl) (by unfold maxLen; omega) (by omega) hB
  refine ⟨v', w', hr, ?_, fun a0 ha => Below.grown ha hg hB (own_base h)⟩
  unfold Bs
  rw [List.map_append, List.length_append]
  exact ho'
theorem conv_nil (w : World) : (convert 65 9 (.slice none 0 0)).run Try.prog w = .ok (.string ⟨#[]⟩) w := by kernel_rfl
theorem conv_bs {B : Nat} {w : World} {v : Value} {ys : By} (h : Bs B w v ys) : (convert 65 9 v).run Try.prog w = .ok (.string (ba ys)) w := by
  rcases h.2 with ⟨rfl, h2⟩ | ⟨g, c, cur, rfl, hB, h3, h4, h5, h6, h7⟩
  · obtain rfl := List.length_eq_zero_iff.1 h2
    exact conv_nil w
  · have hh : Has w g 5 cur := h3
    refine run_convert_bytes_back (P := Try.prog) w 65 9 5 ⟨g, 0, none⟩ c ys Try.underlying65 Try.underlying5 Try.underlying9 (fun j hj => ?_)
    have hadd : (⟨g, 0, none⟩ : Addr).add j = ⟨g, j, none⟩ := by unfold Addr.add; split <;> simp_all
    rw [hadd, hh.at_]
    have e : (ys.map V8)[j]? = some (V8 ys[j]) := by simp [List.getElem?_eq_getElem hj]
    rw [← h7, List.getElem?_take_of_lt (by omega)] at e
    simpa [V8, b8] using e
theorem esc_one (c : UInt8) : esc [c] = if c = 47 then [c] else [92, c] := rfl
theorem esc_next (s : By) (k : Nat) (h : k < s.length) : esc (s.take (k + 1)) = esc (s.take k) ++ (if at8 s k = 47 then [at8 s k] else [92, at8 s k]) := by
  rw [List.take_succ_eq_append_getElem h, esc_app, esc_one, at8_get h]
/-- One byte laid behind: the world, the slice over the literal. -/
theorem lay_one (w : World) (c : UInt8) : ∃ W, w.alloc (.cells #[.int .u8 (b8 c)] 5) = W ∧ Below w.heap.size w W ∧ W.cell? ((⟨w.heap.size, 0, none⟩ : Addr).add 0) = some (V8 c) :=
  ⟨_, rfl, (Below.refl _ _).alloc (Nat.le_refl _) _, (Has.fresh w 5 #[.int .u8 (b8 c)]).at_ 0⟩
set_option maxRecDepth 100000 in
set_option maxHeartbeats 2000000 in
theorem plain_any (s : By) (w : World) (hs : s.length ≤ 60) :
    Calls Try.prog 22 #[.string (ba s)] w fun e w' => e = .returned (.string (ba (plainL s))) ∧ Below w.heap.size w w' := by
  have z := ba_size s
  obtain ⟨W1, hW1, B1, c1⟩ := lay_one w 47
  obtain ⟨v1, w2, har, hs1, hg1⟩ := append_b1 W1 w.heap.size (.slice none 0 0) [] (World.ownsRow_nil _ _ _ _) 47 ⟨w.heap.size, 0, none⟩ c1 (by simp) B1.size 65
  have HAR := hid har
  have HS1 : Hid (Bs w.heap.size w2 v1 (47 :: esc (s.take 0))) := hid (by simpa [esc] using hs1)
  have HB1 := hid (hg1 w B1)
  obtain ⟨A1, cp1, hv1⟩ := HS1.out.form
  subst hv1
  rw [show b8 47 = 47 from rfl] at hW1
  clear har hs1 hg1 B1 c1
  go_enter Try.func22, Try.ntmps22
  go_wp2_with (at_builtin; refine wpList_append_run rfl (.tmp 5) (.tmp 6) 65 65 rfl ⟨_, w2, HAR.out, ?_⟩)
  go_loopw [3, 4] (fun b i wr => ∃ (k : Nat) (A : Option Addr) (cp : Nat), b = .slice A (47 :: esc (s.take k)).length cp ∧ i = .int .i64 (k : Int) ∧ k ≤ s.length ∧ Hid (Bs w.heap.size wr (.slice A (47 :: esc (s.take k)).length cp) (47 :: esc (s.take k))) ∧ Hid (Below w.heap.size w wr))
    (fun _ i _ => s.length - (intOf i).toNat)
  case atStart => exact ⟨0, A1, cp1, rfl, rfl, Nat.zero_le _, HS1, HB1⟩
  case round =>
    obtain ⟨k, A, cp, rfl, rfl, hk, HS, HB⟩ := hrel
    by_cases hlt : k < s.length
    · have hel : (47 :: esc (s.take k)).length ≤ 200 := by
        have h1 := esc_len (s.take k)
        have h2 : (s.take k).length ≤ 60 := by rw [List.length_take]; omega
        rw [List.length_cons]; omega
      have ij := index_str s k hlt
      have HN := hid (esc_next s k hlt)
      have q7 : (b8 (at8 s k) == 47) = (at8 s k == 47) := b8_eq _ 47
      generalize at8 s k = x at *
      obtain ⟨ys, hys⟩ : ∃ ys, 47 :: esc (s.take k) = ys := ⟨_, rfl⟩
      have HN2 : Hid (47 :: esc (s.take (k + 1)) = ys ++ (if x = 47 then [x] else [92, x])) := by show _ = _; rw [HN.out, ← hys]; rfl
      rw [hys] at HS hel ⊢
      clear HN hys
      by_cases hx : x = 47
      · rw [if_pos hx] at HN2
        have q8 : (b8 x != 47) = false := by rw [bne, q7]; simp [hx]
        obtain ⟨W3, hW3, B3, c3⟩ := lay_one wr x
        obtain ⟨v4, w4, har, hs4, hg4⟩ := append_b1 W3 w.heap.size _ ys (HS.out.stays B3) x ⟨wr.heap.size, 0, none⟩ c3 (by omega) (Nat.le_trans HB.out.size B3.size) 65
        have HAR := hid har
        rw [← HN2.out] at hs4
        have HS4 := hid hs4
        have HB4 := hid (hg4 w (HB.out.thenG B3))
        obtain ⟨A4, cp4, hv4⟩ := HS4.out.form
        subst hv4
        clear har hs4 hg4 B3 c3 hx
        go_wp2_with (at_builtin; refine wpList_append_run rfl (.tmp 21) (.tmp 25) 65 65 rfl ⟨_, w4, HAR.out, ?_⟩)
        exact ⟨⟨k + 1, A4, cp4, rfl, by go_num, by omega, HS4.out, HB4.out⟩, by simp [intOf]; omega⟩
      · rw [if_neg hx] at HN2
        have q8 : (b8 x != 47) = true := by rw [bne, q7]; simp [hx]
        obtain ⟨W3, hW3, B3, c3⟩ := lay_one wr 92
        obtain ⟨v4, w4, har, hs4, hg4⟩ := append_b1 W3 w.heap.size _ ys (HS.out.stays B3) 92 ⟨wr.heap.size, 0, none⟩ c3 (by omega) (Nat.le_trans HB.out.size B3.size) 65
        have HB4 := hid (hg4 w (HB.out.thenG B3))
        obtain ⟨A4, cp4, hv4⟩ := hs4.form
        obtain ⟨n4, hn4⟩ : ∃ n, (ys ++ [92]).length = n := ⟨_, rfl⟩
        rw [hn4] at hv4
        subst hv4
        have HAR := hid har
        obtain ⟨W5, hW5, B5, c5⟩ := lay_one w4 x
        obtain ⟨v6, w6, har6, hs6, hg6⟩ := append_b1 W5 w.heap.size _ (ys ++ [92]) (Bs.stays hs4 B5) x ⟨w4.heap.size, 0, none⟩ c5 (by rw [List.length_append]; simp; omega) (Nat.le_trans HB4.out.size B5.size) 65
        have HAR6 := hid har6
        rw [List.append_assoc, show [92] ++ [x] = [92, x] from rfl, ← HN2.out] at hs6
        have HS6 := hid hs6
        have HB6 := hid (hg6 w (HB4.out.thenG B5))
        obtain ⟨A6, cp6, hv6⟩ := HS6.out.form
        subst hv6
        rw [show b8 92 = 92 from rfl] at hW3
        clear har hs4 hg4 B3 c3 hx har6 hs6 hg6 B5 c5 hn4
        go_wp2_with (first
          | (at_builtin; refine wpList_append_run rfl (.tmp 18) (.tmp 19) 65 65 rfl ⟨_, w4, HAR.out, ?_⟩)
          | (at_builtin; refine wpList_append_run rfl (.tmp 21) (.tmp 25) 65 65 rfl ⟨_, w6, HAR6.out, ?_⟩))
        exact ⟨⟨k + 1, A6, cp6, rfl, by go_num, by omega, HS6.out, HB6.out⟩, by simp [intOf]; omega⟩
    · have hk2 : k = s.length := by omega
      have HC := hid (conv_bs HS.out)
      have HP : Hid (47 :: esc (s.take k) = plainL s) := by show _ = _; rw [hk2, List.take_length]; rfl
      rw [HP.out] at HC
      rw [HP.out]
      have hc := HC.out
      clear HP hk2 HS HC
      go_wp2
      go_ret
      exact ⟨rfl, HB.out⟩
end Go.Proofs.Ytbbbopdlefeffaa.Glob
