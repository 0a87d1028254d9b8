/- path.last, IsTemp, fits, IsConflict: what they answer of any text. Conditions: at most 4000 bytes. -/
import Derived.Test.YtoeomghebgbniaaDoorPP
import Derived.Deep.LoopGhost
namespace Go.Proofs.YtoeomghebgbniaaDoor
open Go.RowKit
theorem pieces_snoc (a b : List UInt8) (h : ∀ c ∈ b, c ≠ 47) : pieces (a ++ 47 :: b) = pieces a ++ [b] := by
  induction a with
  | nil => rw [List.nil_append, show pieces (47 :: b) = [] :: pieces b by rw [pieces, if_pos rfl], pieces_no b h]; rfl
  | cons c a ih =>
    rw [List.cons_append]
    by_cases hc : c = 47
    · subst hc
      rw [show pieces (47 :: (a ++ 47 :: b)) = [] :: pieces (a ++ 47 :: b) by rw [pieces, if_pos rfl], ih, show pieces (47 :: a) = [] :: pieces a by rw [pieces, if_pos rfl]]; rfl
    · rw [pieces, if_neg hc, ih, pieces, if_neg hc]
      cases hp : pieces a with
      | nil => exact absurd hp (pieces_ne a)
      | cons p ps => rfl
theorem data_at (s : ByteArray) (j : Nat) (h : j < s.size) : s.data[j]! = at8 (tl s) j := by
  have h2 : j < s.data.size := h
  have h3 : j < (tl s).length := by rw [tl_length]; exact h
  rw [getElem!_pos s.data j h2]
  rw [at8, List.getD, List.getElem?_eq_getElem h3]; rfl
theorem last_spec (s : ByteArray) : (Lib.lastIndexByte s 47 = -1 ∧ lastP (tl s) = tl s) ∨ ∃ i : Nat, i < s.size ∧ Lib.lastIndexByte s 47 = i ∧ lastP (tl s) = (tl s).drop (i + 1) := by
  have hno : ∀ (k : Nat), (∀ j, k ≤ j → j < s.size → ((s.data[j]!).toNat : Int) ≠ 47) → ∀ c ∈ (tl s).drop k, c ≠ 47 := by
    intro k hk c hc hc7
    obtain ⟨j, hj, rfl⟩ := List.mem_iff_getElem.1 hc
    rw [List.length_drop, tl_length] at hj
    have := hk (k + j) (by omega) (by omega)
    rw [data_at s (k + j) (by omega)] at this
    rw [List.getElem_drop] at hc7
    apply this
    have e : at8 (tl s) (k + j) = 47 := by
      rw [← hc7, at8, List.getD, List.getElem?_eq_getElem (by rw [tl_length]; omega)]; rfl
    rw [e]; rfl
  rcases Lib.lastIndexByte_spec s 47 with ⟨h, hn⟩ | ⟨i, hi, h, h7, hn⟩
  · exact .inl ⟨h, lastP_one (pieces_no _ (fun c hc => hno 0 (fun j _ hj => hn j hj) c (by simpa using hc)))⟩
  · refine .inr ⟨i, hi, h, ?_⟩
    have hl : i < (tl s).length := by rw [tl_length]; exact hi
    have e7 : (tl s)[i] = 47 := by
      rw [data_at s i hi] at h7
      have : at8 (tl s) i = 47 := UInt8.toNat_inj.1 (by show _ = 47; omega)
      rw [← this, at8, List.getD, List.getElem?_eq_getElem hl]; rfl
    have hs : tl s = (tl s).take i ++ 47 :: (tl s).drop (i + 1) := by
      conv => lhs; rw [← List.take_append_drop i (tl s), List.drop_eq_getElem_cons hl, e7]
    have hp := pieces_snoc ((tl s).take i) ((tl s).drop (i + 1)) (hno (i + 1) (fun j h1 h2 => hn j (by omega) h2))
    rw [← hs] at hp
    exact lastP_two hp
theorem lastIdx_any (s : ByteArray) (w : World) (hs : s.size ≤ 4000) :
    Calls Tryd.prog 50 #[.string s, .int .u8 47] w fun e w' => e = .returned (.int .i64 (Lib.lastIndexByte s 47)) ∧ w = w' :=
  (Tryd.strings_LastIndexByte s 47 (by omega) w).mono fun _ _ ⟨a, b⟩ => ⟨a, b.symm⟩
set_option maxRecDepth 100000 in
set_option maxHeartbeats 400000 in
theorem last_any (s : ByteArray) (w : World) (hs : s.size ≤ 4000) :
    Calls Tryd.prog 31 #[.string s] w fun e w' => e = .returned (.string (ba (lastP (tl s)))) ∧ w = w' := by
  have HC := hid (fun W => lastIdx_any s W hs)
  rcases last_spec s with ⟨h1, h2⟩ | ⟨i, hi, h1, h2⟩
  · have HV : Hid (ba (lastP (tl s)) = s) := by show _ = _; rw [h2, ba_tl]
    rw [h1] at HC
    clear h1 h2
    go_enter Tryd.func31, Tryd.ntmps31
    go_wp2_with (go_at_call 50; refine (HC.out _).mono ?_; rintro e1 w1 ⟨rfl, rfl⟩)
    go_ret
    exact ⟨ret_str (by rw [HV.out]), rfl⟩
  · have HV : Hid (ba (lastP (tl s)) = s.extract (i + 1) s.size) := by show _ = _; rw [h2, ba_drop]
    have hi2 : ((i + 1 : Nat) : Int) ≤ (s.size : Int) := by omega
    rw [h1] at HC
    clear h1 h2
    go_enter Tryd.func31, Tryd.ntmps31
    go_wp2_with (go_at_call 50; refine (HC.out _).mono ?_; rintro e1 w1 ⟨rfl, rfl⟩)
    go_ret
    exact ⟨ret_str (by rw [HV.out]), rfl⟩
/-- Does it begin as a temp's last part does? -/
def isTempB (l : List UInt8) : Bool := [126, 116, 126].isPrefixOf (lastP l)
set_option maxRecDepth 100000 in
set_option maxHeartbeats 400000 in
theorem isTemp_any (s : ByteArray) (w : World) (hs : s.size ≤ 4000) :
    Calls Tryd.prog 9 #[.string s] w fun e w' => e = .returned (.bool (isTempB (tl s))) ∧ w = w' := by
  obtain ⟨r, HR⟩ : ∃ r, Hid (ba (lastP (tl s)) = r) := ⟨_, rfl⟩
  have HC : Hid (∀ W, Calls Tryd.prog 31 #[.string s] W fun e w' => e = .returned (.string r) ∧ W = w') := by intro W; rw [← HR.out]; exact last_any s W hs
  go_enter Tryd.func9, Tryd.ntmps9
  go_wp2_with fail
  refine (HC.out _).mono ?_; rintro e1 w1 ⟨rfl, rfl⟩
  go_wp2_with fail
  refine (hasPrefix_s r _ _).mono ?_; rintro e2 w2 ⟨rfl, rfl⟩
  go_wp2
  go_ret
  exact ⟨ret_bool (by rw [isTempB, ← HR.out]; rfl), rfl⟩
/-- Does a byte fit the shape's? -/
def fitsB (c d : UInt8) : Bool := if d = 35 then decide (48 ≤ b8 c) && decide (b8 c ≤ 57) else decide (c = d)
set_option maxRecDepth 100000 in
set_option maxHeartbeats 400000 in
theorem fits_any (c d : UInt8) (w : World) : Calls Tryd.prog 32 #[.int .u8 (b8 c), .int .u8 (b8 d)] w fun e w' => e = .returned (.bool (fitsB c d)) ∧ w' = w := by
  have b1 := b8_nonneg c
  have b2 := b8_lt c
  have b3 := b8_nonneg d
  have b4 := b8_lt d
  by_cases h : b8 d = 35
  · have hd : d = 35 := b8_inj h
    have t1 : (b8 d == 35) = true := by simp [h]
    have HV : Hid (fitsB c d = (decide (48 ≤ b8 c) && decide (b8 c ≤ 57))) := by show _ = _; rw [fitsB, if_pos hd]
    clear h hd
    by_cases h1 : 48 ≤ b8 c <;> by_cases h2 : b8 c ≤ 57
    all_goals
      have HV2 := HV.out
      simp only [h1, h2, decide_true, decide_false, Bool.and_true, Bool.and_false] at HV2
      have HV3 := hid HV2
      clear HV2
      go_enter Tryd.func32, Tryd.ntmps32
      go_wp2
      go_ret
      exact ⟨ret_bool HV3.out.symm, rfl⟩
  · have hd : ¬ d = 35 := fun e => h (by rw [e]; rfl)
    have t1 : (b8 d == 35) = false := by simp [h]
    have HV : Hid (fitsB c d = decide (c = d)) := by show _ = _; rw [fitsB, if_neg hd]
    clear h hd
    by_cases h1 : c = d
    · subst h1
      go_enter Tryd.func32, Tryd.ntmps32
      go_wp2
      go_ret
      exact ⟨ret_bool (by rw [HV.out]; simp), rfl⟩
    · have t2 : (b8 c == b8 d) = false := by simp; exact fun e => h1 (b8_inj e)
      have HV2 : Hid (fitsB c d = false) := by show _ = _; rw [HV.out]; simpa using h1
      clear h1
      go_enter Tryd.func32, Tryd.ntmps32
      go_wp2
      go_ret
      exact ⟨ret_bool HV2.out.symm, rfl⟩
end Go.Proofs.YtoeomghebgbniaaDoor
