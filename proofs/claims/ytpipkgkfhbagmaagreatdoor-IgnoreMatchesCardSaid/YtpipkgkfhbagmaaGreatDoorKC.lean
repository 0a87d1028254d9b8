/- The document's patterns: element: what the call does. Conditions: at least one byte, at most 128. -/
import Derived.Test.YtpipkgkfhbagmaaGreatDoorKB
namespace Go.Proofs.YtpipkgkfhbagmaaGreatDoor.Glob
open Go.RowKit
abbrev reC (a b : Int) (c : Bool) (A : Option Addr) (n k : Nat) : Array Value := #[.int .i64 a, .int .u8 b, .bool c, .slice A n k]
theorem reOne (a b : Int) (c : Bool) (A : Option Addr) (n k : Nat) : (#[.int .i64 a, .int .u8 b, .bool c, .slice A n k] : Array Value).all (·.oneCell') = true := by simp [Value.oneCell']
/-- The document's element. -/
def REl (w : World) (el : El) (a b : Int) (c : Bool) (A : Option Addr) (n k : Nat) : Prop :=
  match el with
  | .all => a = 1 ∧ b = 0 ∧ c = false ∧ A = none ∧ n = 0 ∧ k = 0
  | .part => a = 2 ∧ b = 0 ∧ c = false ∧ A = none ∧ n = 0 ∧ k = 0
  | .one => a = 3 ∧ b = 0 ∧ c = false ∧ A = none ∧ n = 0 ∧ k = 0
  | .set neg rs => a = 4 ∧ b = 0 ∧ c = neg ∧ n = rs.length ∧ Rgs 0 w (.slice A n k) rs
  | .byt x => a = 5 ∧ b = b8 x ∧ c = false ∧ A = none ∧ n = 0 ∧ k = 0
def RElemIs (x : Option (El × By)) (e : Ending) (w' : World) : Prop :=
  ∃ a b c A n k r ok, e = .returned (.tuple #[.agg (reC a b c A n k), .string (ba r), .bool ok]) ∧ ((x = none ∧ ok = false) ∨ ∃ el, x = some (el, r) ∧ ok = true ∧ REl w' el a b c A n k)
theorem cb_slash {s : By} (h0 : 1 ≤ s.length) (h : (at8 s 0 == 47) = true) : cbL s = some (47, s.drop 1) := by
  cases s with
  | nil => simp at h0
  | cons x s =>
    have hx : x = 47 := by simpa [at8] using h
    subst hx
    unfold cbL
    have : pre [92] (47 :: s) = false := by simp [pre, List.isPrefixOf]
    rw [this]; simp [at8]
theorem cb_wr {s : By} (h : (at8 s 0 == 47) = false) : cbL s = wrL s := by
  have e : cbL s = if (cutP [92] s).length = 0 then none else if pre [92] s && (at8 (cutP [92] s) 0 == 47) then none else some (at8 (cutP [92] s) 0, (cutP [92] s).drop 1) := rfl
  rw [e]
  unfold wrL
  simp only
  cases hb : pre [92] s with
  | false =>
    have hc : cutP [92] s = s := by unfold cutP; rw [hb]; rfl
    rw [hc, h]; simp
  | true => simp
set_option maxRecDepth 100000 in
set_option maxHeartbeats 2000000 in
theorem re_all (s : By) (w : World) (h0 : 1 ≤ s.length) (hs : s.length ≤ 128) (h1 : pre [42, 42] s = true) :
    Calls Tryz.prog 48 #[.string (ba s)] w fun e w' => RElemIs (elemL s) e w' ∧ Below w.heap.size w w' := by
  have HE : Hid (elemL s = some (.all, s.drop 2)) := by
    show _ = _; unfold elemL; rw [if_pos h1]
  have hp : ∀ W, Calls Tryz.prog 47 #[.string (ba s), .string ⟨#[42, 42]⟩] W fun e w' => e = .returned (.bool true) ∧ W = w' := by
    intro W; have := begins_any s [42, 42] W; rw [h1] at this; exact this
  have i0 := idx0 s h0
  have z := ba_size s
  have hpi : (1 : Int) ≤ (s.length : Int) := by omega
  generalize elemL s = goal at HE
  obtain ⟨W1, hW1⟩ : ∃ W1, w.alloc (.cells #[.int .i64 0, .int .u8 0, .bool false, .slice none 0 0] 90) = W1 := ⟨_, rfl⟩
  have HR : Hid (Has W1 w.heap.size 90 zeroE) := hW1 ▸ Has.fresh _ _ _
  have HB : Hid (Below w.heap.size w W1) := hW1 ▸ (Below.refl _ _).alloc (Nat.le_refl _) _
  have hl2 : (2 : Int) ≤ (s.length : Int) := by have := pre_len h1; simp at this; omega
  have zd := ba_drop s 2
  generalize s.drop 2 = u at zd HE
  clear h1 h0
  go_enter Tryz.func48, Tryz.ntmps48
  go_wp2_with (go_at_call 47; refine (hp _).mono ?_; rintro e1 w1 ⟨rfl, rfl⟩)
  refine wp_region_noPanic ?_
  refine wp_region_held_drew (S := fun _ => True) (by kernel_rfl) (trivial) (fun hS => ?_)
  refine wpAnyH_take (i := 0) (v := ?_) (by simp only [List.getElem?_toArray, List.getElem?_cons_zero]; rfl) (by kernel_rfl) (by kernel_rfl) (by kernel_rfl) (fun _ _ _ h => h) (Or.inl ⟨by rfl, ?_⟩) (by assumption) ?_
  rotate_left 1
  · intro w hSw
    go_simp
    with_reducible rfl
  simp only [Act.put, List.setIfInBounds_toArray, List.set_cons_zero, List.set_cons_succ]
  refine wpAnyH_take (i := 1) (v := ?_) (by simp only [List.getElem?_toArray, List.getElem?_cons_zero, List.getElem?_cons_succ]; rfl) (by kernel_rfl) (by kernel_rfl) (by kernel_rfl) (fun _ _ _ h => h) (Or.inl ⟨by rfl, ?_⟩) (by assumption) ?_
  rotate_left 1
  · intro w hSw
    go_simp
    with_reducible rfl
  simp only [Act.put, List.setIfInBounds_toArray, List.set_cons_zero, List.set_cons_succ]
  refine wpAnyH_take (i := 2) (v := ?_) (by simp only [List.getElem?_toArray, List.getElem?_cons_zero, List.getElem?_cons_succ]; rfl) (by kernel_rfl) (by kernel_rfl) (by kernel_rfl) (fun _ _ _ h => h) (Or.inl ⟨by rfl, ?_⟩) (by assumption) ?_
  rotate_left 1
  · intro w hSw
    go_simp
    with_reducible rfl
  simp only [Act.put, List.setIfInBounds_toArray, List.set_cons_zero, List.set_cons_succ]
  refine wpAnyH_ready (rs := [3]) (by kernel_rfl) (by simp) ?_
  refine AllReadyH.cons (by simp only [List.getElem?_toArray, List.getElem?_cons_zero, List.getElem?_cons_succ]; rfl) (fun K hK => ?_) AllReadyH.nil
  rw [if_pos (by rfl)]
  refine wp_store_row 90 (.tmp 2) (.tmp 10) rfl w.heap.size #[.int .i64 1, .int .u8 0, .bool false, .slice none 0 0] rfl rfl 90 zeroE (HR.out.drawn 1) iRE rfl (reOne _ _ _ _ _ _) ?_
  refine hK.out _ _ trivial (fun hS => ?_)
  clear hK K hS
  refine wpAnyH_take (i := 4) (v := ?_) (by simp only [List.getElem?_toArray, List.getElem?_cons_zero, List.getElem?_cons_succ]; rfl) (by kernel_rfl) (by kernel_rfl) (by kernel_rfl) (fun _ _ _ h => h) (Or.inl ⟨by rfl, ?_⟩) (by assumption) ?_
  rotate_left 1
  · intro w hSw
    go_simp
    with_reducible rfl
  simp only [Act.put, List.setIfInBounds_toArray, List.set_cons_zero, List.set_cons_succ]
  refine wpAnyH_take (i := 5) (v := ?_) (by simp only [List.getElem?_toArray, List.getElem?_cons_zero, List.getElem?_cons_succ]; rfl) (by kernel_rfl) (by kernel_rfl) (by kernel_rfl) (fun _ _ _ h => h) (Or.inl ⟨by rfl, ?_⟩) (by assumption) ?_
  rotate_left 1
  · intro w hSw
    go_simp
    with_reducible rfl
  simp only [Act.put, List.setIfInBounds_toArray, List.set_cons_zero, List.set_cons_succ]
  refine wpAnyH_done (by kernel_rfl) ?_ _
  refine NoPanic.normal ?_
  go_wp2
  refine bodyPost_ret (results_ctt rfl _ _ _ w.heap.size _ _ _ (load_re (Has.row (HR.out.drawn 1))) rfl rfl rfl) rfl ⟨?_, (HB.out.drew).rowG (Nat.le_refl _) _⟩
  rw [HE.out]
  exact ⟨1, 0, false, none, 0, 0, _, true, rfl, .inr ⟨_, rfl, rfl, by refine ⟨rfl, rfl, rfl, rfl, rfl, rfl⟩⟩⟩
set_option maxRecDepth 100000 in
set_option maxHeartbeats 2000000 in
theorem re_part (s : By) (w : World) (h0 : 1 ≤ s.length) (hs : s.length ≤ 128) (h1 : pre [42, 42] s = false) (h2 : (at8 s 0 == 42) = true) :
    Calls Tryz.prog 48 #[.string (ba s)] w fun e w' => RElemIs (elemL s) e w' ∧ Below w.heap.size w w' := by
  have HE : Hid (elemL s = some (.part, s.drop 1)) := by
    show _ = _; unfold elemL; rw [h1, h2]; rfl
  have hp : ∀ W, Calls Tryz.prog 47 #[.string (ba s), .string ⟨#[42, 42]⟩] W fun e w' => e = .returned (.bool false) ∧ W = w' := by
    intro W; have := begins_any s [42, 42] W; rw [h1] at this; exact this
  have i0 := idx0 s h0
  have z := ba_size s
  have hpi : (1 : Int) ≤ (s.length : Int) := by omega
  generalize elemL s = goal at HE
  obtain ⟨W1, hW1⟩ : ∃ W1, w.alloc (.cells #[.int .i64 0, .int .u8 0, .bool false, .slice none 0 0] 90) = W1 := ⟨_, rfl⟩
  have HR : Hid (Has W1 w.heap.size 90 zeroE) := hW1 ▸ Has.fresh _ _ _
  have HB : Hid (Below w.heap.size w W1) := hW1 ▸ (Below.refl _ _).alloc (Nat.le_refl _) _
  have q2 : (b8 (at8 s 0) == 42) = true := (b8_eq (at8 s 0) 42).trans h2
  have zd := ba_drop s 1
  generalize s.drop 1 = u at *
  generalize at8 s 0 = x at *
  clear h1 h0 h2
  go_enter Tryz.func48, Tryz.ntmps48
  go_wp2_with (go_at_call 47; refine (hp _).mono ?_; rintro e1 w1 ⟨rfl, rfl⟩)
  refine wp_region_noPanic ?_
  refine wp_region_held_drew (S := fun _ => True) (by kernel_rfl) (trivial) (fun hS => ?_)
  refine wpAnyH_take (i := 0) (v := ?_) (by simp only [List.getElem?_toArray, List.getElem?_cons_zero]; rfl) (by kernel_rfl) (by kernel_rfl) (by kernel_rfl) (fun _ _ _ h => h) (Or.inl ⟨by rfl, ?_⟩) (by assumption) ?_
  rotate_left 1
  · intro w hSw
    go_simp
    with_reducible rfl
  simp only [Act.put, List.setIfInBounds_toArray, List.set_cons_zero, List.set_cons_succ]
  refine wpAnyH_take (i := 1) (v := ?_) (by simp only [List.getElem?_toArray, List.getElem?_cons_zero, List.getElem?_cons_succ]; rfl) (by kernel_rfl) (by kernel_rfl) (by kernel_rfl) (fun _ _ _ h => h) (Or.inl ⟨by rfl, ?_⟩) (by assumption) ?_
  rotate_left 1
  · intro w hSw
    go_simp
    with_reducible rfl
  simp only [Act.put, List.setIfInBounds_toArray, List.set_cons_zero, List.set_cons_succ]
  refine wpAnyH_take (i := 2) (v := ?_) (by simp only [List.getElem?_toArray, List.getElem?_cons_zero, List.getElem?_cons_succ]; rfl) (by kernel_rfl) (by kernel_rfl) (by kernel_rfl) (fun _ _ _ h => h) (Or.inl ⟨by rfl, ?_⟩) (by assumption) ?_
  rotate_left 1
  · intro w hSw
    go_simp
    with_reducible rfl
  simp only [Act.put, List.setIfInBounds_toArray, List.set_cons_zero, List.set_cons_succ]
  refine wpAnyH_ready (rs := [3]) (by kernel_rfl) (by simp) ?_
  refine AllReadyH.cons (by simp only [List.getElem?_toArray, List.getElem?_cons_zero, List.getElem?_cons_succ]; rfl) (fun K hK => ?_) AllReadyH.nil
  rw [if_pos (by rfl)]
  refine wp_store_row 90 (.tmp 2) (.tmp 16) rfl w.heap.size #[.int .i64 2, .int .u8 0, .bool false, .slice none 0 0] rfl rfl 90 zeroE (HR.out.drawn 1) iRE rfl (reOne _ _ _ _ _ _) ?_
  refine hK.out _ _ trivial (fun hS => ?_)
  clear hK K hS
  refine wpAnyH_take (i := 4) (v := ?_) (by simp only [List.getElem?_toArray, List.getElem?_cons_zero, List.getElem?_cons_succ]; rfl) (by kernel_rfl) (by kernel_rfl) (by kernel_rfl) (fun _ _ _ h => h) (Or.inl ⟨by rfl, ?_⟩) (by assumption) ?_
  rotate_left 1
  · intro w hSw
    go_simp
    with_reducible rfl
  simp only [Act.put, List.setIfInBounds_toArray, List.set_cons_zero, List.set_cons_succ]
  refine wpAnyH_take (i := 5) (v := ?_) (by simp only [List.getElem?_toArray, List.getElem?_cons_zero, List.getElem?_cons_succ]; rfl) (by kernel_rfl) (by kernel_rfl) (by kernel_rfl) (fun _ _ _ h => h) (Or.inl ⟨by rfl, ?_⟩) (by assumption) ?_
  rotate_left 1
  · intro w hSw
    go_simp
    with_reducible rfl
  simp only [Act.put, List.setIfInBounds_toArray, List.set_cons_zero, List.set_cons_succ]
  refine wpAnyH_done (by kernel_rfl) ?_ _
  refine NoPanic.normal ?_
  go_wp2
  refine bodyPost_ret (results_ctt rfl _ _ _ w.heap.size _ _ _ (load_re (Has.row (HR.out.drawn 1))) rfl rfl rfl) rfl ⟨?_, (HB.out.drew).rowG (Nat.le_refl _) _⟩
  rw [HE.out]
  exact ⟨2, 0, false, none, 0, 0, _, true, rfl, .inr ⟨_, rfl, rfl, by refine ⟨rfl, rfl, rfl, rfl, rfl, rfl⟩⟩⟩
set_option maxRecDepth 100000 in
set_option maxHeartbeats 2000000 in
theorem re_one (s : By) (w : World) (h0 : 1 ≤ s.length) (hs : s.length ≤ 128) (h1 : pre [42, 42] s = false) (h2 : (at8 s 0 == 42) = false) (h3 : (at8 s 0 == 63) = true) :
    Calls Tryz.prog 48 #[.string (ba s)] w fun e w' => RElemIs (elemL s) e w' ∧ Below w.heap.size w w' := by
  have HE : Hid (elemL s = some (.one, s.drop 1)) := by
    show _ = _; unfold elemL; rw [h1, h2, h3]; rfl
  have hp : ∀ W, Calls Tryz.prog 47 #[.string (ba s), .string ⟨#[42, 42]⟩] W fun e w' => e = .returned (.bool false) ∧ W = w' := by
    intro W; have := begins_any s [42, 42] W; rw [h1] at this; exact this
  have i0 := idx0 s h0
  have z := ba_size s
  have hpi : (1 : Int) ≤ (s.length : Int) := by omega
  generalize elemL s = goal at HE
  obtain ⟨W1, hW1⟩ : ∃ W1, w.alloc (.cells #[.int .i64 0, .int .u8 0, .bool false, .slice none 0 0] 90) = W1 := ⟨_, rfl⟩
  have HR : Hid (Has W1 w.heap.size 90 zeroE) := hW1 ▸ Has.fresh _ _ _
  have HB : Hid (Below w.heap.size w W1) := hW1 ▸ (Below.refl _ _).alloc (Nat.le_refl _) _
  have q2 : (b8 (at8 s 0) == 42) = false := (b8_eq (at8 s 0) 42).trans h2
  have q3 : (b8 (at8 s 0) == 63) = true := (b8_eq (at8 s 0) 63).trans h3
  have zd := ba_drop s 1
  generalize s.drop 1 = u at *
  generalize at8 s 0 = x at *
  clear h1 h0 h2 h3
  go_enter Tryz.func48, Tryz.ntmps48
  go_wp2_with (go_at_call 47; refine (hp _).mono ?_; rintro e1 w1 ⟨rfl, rfl⟩)
  refine wp_region_noPanic ?_
  refine wp_region_held_drew (S := fun _ => True) (by kernel_rfl) (trivial) (fun hS => ?_)
  refine wpAnyH_take (i := 0) (v := ?_) (by simp only [List.getElem?_toArray, List.getElem?_cons_zero]; rfl) (by kernel_rfl) (by kernel_rfl) (by kernel_rfl) (fun _ _ _ h => h) (Or.inl ⟨by rfl, ?_⟩) (by assumption) ?_
  rotate_left 1
  · intro w hSw
    go_simp
    with_reducible rfl
  simp only [Act.put, List.setIfInBounds_toArray, List.set_cons_zero, List.set_cons_succ]
  refine wpAnyH_take (i := 1) (v := ?_) (by simp only [List.getElem?_toArray, List.getElem?_cons_zero, List.getElem?_cons_succ]; rfl) (by kernel_rfl) (by kernel_rfl) (by kernel_rfl) (fun _ _ _ h => h) (Or.inl ⟨by rfl, ?_⟩) (by assumption) ?_
  rotate_left 1
  · intro w hSw
    go_simp
    with_reducible rfl
  simp only [Act.put, List.setIfInBounds_toArray, List.set_cons_zero, List.set_cons_succ]
  refine wpAnyH_take (i := 2) (v := ?_) (by simp only [List.getElem?_toArray, List.getElem?_cons_zero, List.getElem?_cons_succ]; rfl) (by kernel_rfl) (by kernel_rfl) (by kernel_rfl) (fun _ _ _ h => h) (Or.inl ⟨by rfl, ?_⟩) (by assumption) ?_
  rotate_left 1
  · intro w hSw
    go_simp
    with_reducible rfl
  simp only [Act.put, List.setIfInBounds_toArray, List.set_cons_zero, List.set_cons_succ]
  refine wpAnyH_ready (rs := [3]) (by kernel_rfl) (by simp) ?_
  refine AllReadyH.cons (by simp only [List.getElem?_toArray, List.getElem?_cons_zero, List.getElem?_cons_succ]; rfl) (fun K hK => ?_) AllReadyH.nil
  rw [if_pos (by rfl)]
  refine wp_store_row 90 (.tmp 2) (.tmp 22) rfl w.heap.size #[.int .i64 3, .int .u8 0, .bool false, .slice none 0 0] rfl rfl 90 zeroE (HR.out.drawn 1) iRE rfl (reOne _ _ _ _ _ _) ?_
  refine hK.out _ _ trivial (fun hS => ?_)
  clear hK K hS
  refine wpAnyH_take (i := 4) (v := ?_) (by simp only [List.getElem?_toArray, List.getElem?_cons_zero, List.getElem?_cons_succ]; rfl) (by kernel_rfl) (by kernel_rfl) (by kernel_rfl) (fun _ _ _ h => h) (Or.inl ⟨by rfl, ?_⟩) (by assumption) ?_
  rotate_left 1
  · intro w hSw
    go_simp
    with_reducible rfl
  simp only [Act.put, List.setIfInBounds_toArray, List.set_cons_zero, List.set_cons_succ]
  refine wpAnyH_take (i := 5) (v := ?_) (by simp only [List.getElem?_toArray, List.getElem?_cons_zero, List.getElem?_cons_succ]; rfl) (by kernel_rfl) (by kernel_rfl) (by kernel_rfl) (fun _ _ _ h => h) (Or.inl ⟨by rfl, ?_⟩) (by assumption) ?_
  rotate_left 1
  · intro w hSw
    go_simp
    with_reducible rfl
  simp only [Act.put, List.setIfInBounds_toArray, List.set_cons_zero, List.set_cons_succ]
  refine wpAnyH_done (by kernel_rfl) ?_ _
  refine NoPanic.normal ?_
  go_wp2
  refine bodyPost_ret (results_ctt rfl _ _ _ w.heap.size _ _ _ (load_re (Has.row (HR.out.drawn 1))) rfl rfl rfl) rfl ⟨?_, (HB.out.drew).rowG (Nat.le_refl _) _⟩
  rw [HE.out]
  exact ⟨3, 0, false, none, 0, 0, _, true, rfl, .inr ⟨_, rfl, rfl, by refine ⟨rfl, rfl, rfl, rfl, rfl, rfl⟩⟩⟩
set_option maxRecDepth 100000 in
set_option maxHeartbeats 2000000 in
theorem re_set (s : By) (w : World) (h0 : 1 ≤ s.length) (hs : s.length ≤ 128) (h1 : pre [42, 42] s = false) (h2 : (at8 s 0 == 42) = false) (h3 : (at8 s 0 == 63) = false) (h4 : (at8 s 0 == 91) = true) :
    Calls Tryz.prog 48 #[.string (ba s)] w fun e w' => RElemIs (elemL s) e w' ∧ Below w.heap.size w w' := by
  have HE : Hid (elemL s = clsL (s.drop 1)) := by
    show _ = _; exact elemL_set s h1 h2 h3 h4
  have hp : ∀ W, Calls Tryz.prog 47 #[.string (ba s), .string ⟨#[42, 42]⟩] W fun e w' => e = .returned (.bool false) ∧ W = w' := by
    intro W; have := begins_any s [42, 42] W; rw [h1] at this; exact this
  have i0 := idx0 s h0
  have z := ba_size s
  have hpi : (1 : Int) ≤ (s.length : Int) := by omega
  generalize elemL s = goal at HE
  obtain ⟨W1, hW1⟩ : ∃ W1, w.alloc (.cells #[.int .i64 0, .int .u8 0, .bool false, .slice none 0 0] 90) = W1 := ⟨_, rfl⟩
  have HR : Hid (Has W1 w.heap.size 90 zeroE) := hW1 ▸ Has.fresh _ _ _
  have HB : Hid (Below w.heap.size w W1) := hW1 ▸ (Below.refl _ _).alloc (Nat.le_refl _) _
  have q2 : (b8 (at8 s 0) == 42) = false := (b8_eq (at8 s 0) 42).trans h2
  have q3 : (b8 (at8 s 0) == 63) = false := (b8_eq (at8 s 0) 63).trans h3
  have q4 : (b8 (at8 s 0) == 91) = true := (b8_eq (at8 s 0) 91).trans h4
  have zd := ba_drop s 1
  have hl1 : (s.drop 1).length ≤ 128 := by simp; omega
  generalize s.drop 1 = u at *
  generalize at8 s 0 = x at *
  clear h1 h0 h2 h3 h4
  have CC := hid (rclass_any u W1 hl1)
  clear hl1
  go_enter Tryz.func48, Tryz.ntmps48
  go_wp2_with (go_at_call 47; refine (hp _).mono ?_; rintro e1 w1 ⟨rfl, rfl⟩)
  refine CC.out.mono ?_
  rintro e2 w2 ⟨⟨neg, A, n, c, r, ok, rfl, hh⟩, hb2⟩
  have H2 := hid (HR.out.stays hb2)
  have B2 := hid (HB.out.thenG hb2)
  have k0 := H2.out.at_ 0
  have k1 := H2.out.at_ 1
  have k2 := H2.out.at_ 2
  have k3 := H2.out.at_ 3
  have f0 := H2.out.free 0
  have f1 := H2.out.free 1
  have f2 := H2.out.free 2
  have f3 := H2.out.free 3
  have HH := hid hh
  clear hh hb2
  go_wp2
  have HF := hid ((((H2.out.put 0 (.int .i64 4)).put 1 (.int .u8 0)).put 2 (.bool neg)).put 3 (.slice A n c))
  refine bodyPost_ret (results_ctt rfl _ _ _ w.heap.size _ _ _ (load_re HF.out) rfl rfl rfl) rfl ⟨?_, ((((B2.out.setCell (Nat.le_refl _) _).setCell (Nat.le_refl _) _).setCell (Nat.le_refl _) _).setCell (Nat.le_refl _) _)⟩
  rw [HE.out]
  refine ⟨4, 0, neg, A, n, c, r, ok, rfl, ?_⟩
  rcases HH.out with ⟨h1, h2⟩ | ⟨rs, h1, h2, h3⟩
  · exact .inl ⟨h1, h2⟩
  · have hn : n = rs.length := by
      obtain ⟨A', c', h⟩ := h3.form
      simp only [Value.slice.injEq] at h
      exact h.2.1
    refine .inr ⟨_, h1, h2, rfl, rfl, rfl, hn, ?_⟩
    exact (((h3.put H2.out (by decide) 0 _).put (H2.out.put 0 _) (by decide) 1 _).put ((H2.out.put 0 _).put 1 _) (by decide) 2 _).put (((H2.out.put 0 _).put 1 _).put 2 _) (by decide) 3 _
set_option maxRecDepth 100000 in
set_option maxHeartbeats 2000000 in
theorem re_slash (s : By) (w : World) (h0 : 1 ≤ s.length) (hs : s.length ≤ 128) (h1 : pre [42, 42] s = false) (h2 : (at8 s 0 == 42) = false) (h3 : (at8 s 0 == 63) = false) (h4 : (at8 s 0 == 91) = false) (h5 : (at8 s 0 == 47) = true) :
    Calls Tryz.prog 48 #[.string (ba s)] w fun e w' => RElemIs (elemL s) e w' ∧ Below w.heap.size w w' := by
  have HE : Hid (elemL s = some (.byt 47, s.drop 1)) := by
    show _ = _; rw [elemL_byt s h1 h2 h3 h4, cb_slash h0 h5]
  have hp : ∀ W, Calls Tryz.prog 47 #[.string (ba s), .string ⟨#[42, 42]⟩] W fun e w' => e = .returned (.bool false) ∧ W = w' := by
    intro W; have := begins_any s [42, 42] W; rw [h1] at this; exact this
  have i0 := idx0 s h0
  have z := ba_size s
  have hpi : (1 : Int) ≤ (s.length : Int) := by omega
  generalize elemL s = goal at HE
  obtain ⟨W1, hW1⟩ : ∃ W1, w.alloc (.cells #[.int .i64 0, .int .u8 0, .bool false, .slice none 0 0] 90) = W1 := ⟨_, rfl⟩
  have HR : Hid (Has W1 w.heap.size 90 zeroE) := hW1 ▸ Has.fresh _ _ _
  have HB : Hid (Below w.heap.size w W1) := hW1 ▸ (Below.refl _ _).alloc (Nat.le_refl _) _
  have q2 : (b8 (at8 s 0) == 42) = false := (b8_eq (at8 s 0) 42).trans h2
  have q3 : (b8 (at8 s 0) == 63) = false := (b8_eq (at8 s 0) 63).trans h3
  have q4 : (b8 (at8 s 0) == 91) = false := (b8_eq (at8 s 0) 91).trans h4
  have q5 : (b8 (at8 s 0) == 47) = true := (b8_eq (at8 s 0) 47).trans h5
  have zd := ba_drop s 1
  generalize s.drop 1 = u at *
  generalize at8 s 0 = x at *
  clear h1 h0 h2 h3 h4 h5
  go_enter Tryz.func48, Tryz.ntmps48
  go_wp2_with (go_at_call 47; refine (hp _).mono ?_; rintro e1 w1 ⟨rfl, rfl⟩)
  refine wp_region_noPanic ?_
  refine wp_region_held_drew (S := fun _ => True) (by kernel_rfl) (trivial) (fun hS => ?_)
  refine wpAnyH_take (i := 0) (v := ?_) (by simp only [List.getElem?_toArray, List.getElem?_cons_zero]; rfl) (by kernel_rfl) (by kernel_rfl) (by kernel_rfl) (fun _ _ _ h => h) (Or.inl ⟨by rfl, ?_⟩) (by assumption) ?_
  rotate_left 1
  · intro w hSw
    go_simp
    with_reducible rfl
  simp only [Act.put, List.setIfInBounds_toArray, List.set_cons_zero, List.set_cons_succ]
  refine wpAnyH_take (i := 1) (v := ?_) (by simp only [List.getElem?_toArray, List.getElem?_cons_zero, List.getElem?_cons_succ]; rfl) (by kernel_rfl) (by kernel_rfl) (by kernel_rfl) (fun _ _ _ h => h) (Or.inl ⟨by rfl, ?_⟩) (by assumption) ?_
  rotate_left 1
  · intro w hSw
    go_simp
    with_reducible rfl
  simp only [Act.put, List.setIfInBounds_toArray, List.set_cons_zero, List.set_cons_succ]
  refine wpAnyH_take (i := 2) (v := ?_) (by simp only [List.getElem?_toArray, List.getElem?_cons_zero, List.getElem?_cons_succ]; rfl) (by kernel_rfl) (by kernel_rfl) (by kernel_rfl) (fun _ _ _ h => h) (Or.inl ⟨by rfl, ?_⟩) (by assumption) ?_
  rotate_left 1
  · intro w hSw
    go_simp
    with_reducible rfl
  simp only [Act.put, List.setIfInBounds_toArray, List.set_cons_zero, List.set_cons_succ]
  refine wpAnyH_ready (rs := [3]) (by kernel_rfl) (by simp) ?_
  refine AllReadyH.cons (by simp only [List.getElem?_toArray, List.getElem?_cons_zero, List.getElem?_cons_succ]; rfl) (fun K hK => ?_) AllReadyH.nil
  rw [if_pos (by rfl)]
  refine wp_store_row 90 (.tmp 2) (.tmp 37) rfl w.heap.size #[.int .i64 5, .int .u8 47, .bool false, .slice none 0 0] rfl rfl 90 zeroE (HR.out.drawn 1) iRE rfl (reOne _ _ _ _ _ _) ?_
  refine hK.out _ _ trivial (fun hS => ?_)
  clear hK K hS
  refine wpAnyH_take (i := 4) (v := ?_) (by simp only [List.getElem?_toArray, List.getElem?_cons_zero, List.getElem?_cons_succ]; rfl) (by kernel_rfl) (by kernel_rfl) (by kernel_rfl) (fun _ _ _ h => h) (Or.inl ⟨by rfl, ?_⟩) (by assumption) ?_
  rotate_left 1
  · intro w hSw
    go_simp
    with_reducible rfl
  simp only [Act.put, List.setIfInBounds_toArray, List.set_cons_zero, List.set_cons_succ]
  refine wpAnyH_take (i := 5) (v := ?_) (by simp only [List.getElem?_toArray, List.getElem?_cons_zero, List.getElem?_cons_succ]; rfl) (by kernel_rfl) (by kernel_rfl) (by kernel_rfl) (fun _ _ _ h => h) (Or.inl ⟨by rfl, ?_⟩) (by assumption) ?_
  rotate_left 1
  · intro w hSw
    go_simp
    with_reducible rfl
  simp only [Act.put, List.setIfInBounds_toArray, List.set_cons_zero, List.set_cons_succ]
  refine wpAnyH_done (by kernel_rfl) ?_ _
  refine NoPanic.normal ?_
  go_wp2
  refine bodyPost_ret (results_ctt rfl _ _ _ w.heap.size _ _ _ (load_re (Has.row (HR.out.drawn 1))) rfl rfl rfl) rfl ⟨?_, (HB.out.drew).rowG (Nat.le_refl _) _⟩
  rw [HE.out]
  exact ⟨5, 47, false, none, 0, 0, _, true, rfl, .inr ⟨_, rfl, rfl, by refine ⟨rfl, rfl, rfl, rfl, rfl, rfl⟩⟩⟩
set_option maxRecDepth 100000 in
set_option maxHeartbeats 2000000 in
theorem re_byt (s : By) (w : World) (h0 : 1 ≤ s.length) (hs : s.length ≤ 128) (h1 : pre [42, 42] s = false) (h2 : (at8 s 0 == 42) = false) (h3 : (at8 s 0 == 63) = false) (h4 : (at8 s 0 == 91) = false) (h5 : (at8 s 0 == 47) = false) :
    Calls Tryz.prog 48 #[.string (ba s)] w fun e w' => RElemIs (elemL s) e w' ∧ Below w.heap.size w w' := by
  have HE : Hid (elemL s = match wrL s with | none => none | some (c, r) => some (.byt c, r)) := by
    show _ = _; rw [elemL_byt s h1 h2 h3 h4, cb_wr h5]; rfl
  have hp : ∀ W, Calls Tryz.prog 47 #[.string (ba s), .string ⟨#[42, 42]⟩] W fun e w' => e = .returned (.bool false) ∧ W = w' := by
    intro W; have := begins_any s [42, 42] W; rw [h1] at this; exact this
  have i0 := idx0 s h0
  have z := ba_size s
  have hpi : (1 : Int) ≤ (s.length : Int) := by omega
  generalize elemL s = goal at HE
  obtain ⟨W1, hW1⟩ : ∃ W1, w.alloc (.cells #[.int .i64 0, .int .u8 0, .bool false, .slice none 0 0] 90) = W1 := ⟨_, rfl⟩
  have HR : Hid (Has W1 w.heap.size 90 zeroE) := hW1 ▸ Has.fresh _ _ _
  have HB : Hid (Below w.heap.size w W1) := hW1 ▸ (Below.refl _ _).alloc (Nat.le_refl _) _
  have q2 : (b8 (at8 s 0) == 42) = false := (b8_eq (at8 s 0) 42).trans h2
  have q3 : (b8 (at8 s 0) == 63) = false := (b8_eq (at8 s 0) 63).trans h3
  have q4 : (b8 (at8 s 0) == 91) = false := (b8_eq (at8 s 0) 91).trans h4
  have q5 : (b8 (at8 s 0) == 47) = false := (b8_eq (at8 s 0) 47).trans h5
  generalize at8 s 0 = x at *
  have hc := wr_any s
  generalize wrL s = cb at hc HE
  obtain ⟨c, r, ok, hv⟩ : ∃ (c : UInt8) (r : By) (ok : Bool), cbV cb = .tuple #[.int .u8 (b8 c), .string (ba r), .bool ok] ∧ goal = if ok then some (.byt c, r) else none := by
    cases cb with
    | none => exact ⟨0, [], false, rfl, HE.out⟩
    | some y => exact ⟨y.1, y.2, true, rfl, HE.out⟩
  rw [hv.1] at hc
  have HE2 := hid hv.2
  clear h1 h0 h2 h3 h4 h5 HE hv
  have k0 := HR.out.at_ 0
  have k1 := HR.out.at_ 1
  have k2 := HR.out.at_ 2
  have k3 := HR.out.at_ 3
  have f0 := HR.out.free 0
  have f1 := HR.out.free 1
  have f2 := HR.out.free 2
  have f3 := HR.out.free 3
  go_enter Tryz.func48, Tryz.ntmps48
  go_wp2_with (go_at_call 47; refine (hp _).mono ?_; rintro e1 w1 ⟨rfl, rfl⟩)
  refine (hc _).mono ?_
  rintro e2 w2 ⟨rfl, n2, rfl⟩
  go_wp2
  have HF := hid (((((HR.out.drawn n2).put 0 (.int .i64 5)).put 1 (.int .u8 (b8 c))).put 2 (.bool false)).put 3 (.slice none 0 0))
  refine bodyPost_ret (results_ctt rfl _ _ _ w.heap.size _ _ _ (load_re HF.out) rfl rfl rfl) rfl ⟨?_, (((((HB.out.drewG n2).setCell (Nat.le_refl _) _).setCell (Nat.le_refl _) _).setCell (Nat.le_refl _) _).setCell (Nat.le_refl _) _)⟩
  rw [HE2.out]
  refine ⟨5, b8 c, false, none, 0, 0, r, ok, rfl, ?_⟩
  cases ok with
  | false => exact .inl ⟨rfl, rfl⟩
  | true => exact .inr ⟨_, rfl, rfl, rfl, rfl, rfl, rfl, rfl, rfl⟩
theorem relem_any (s : By) (w : World) (h0 : 1 ≤ s.length) (hs : s.length ≤ 128) :
    Calls Tryz.prog 48 #[.string (ba s)] w fun e w' => RElemIs (elemL s) e w' ∧ Below w.heap.size w w' := by
  cases h1 : pre [42, 42] s with
  | true => exact re_all s w h0 hs h1
  | false => cases h2 : at8 s 0 == 42 with
    | true => exact re_part s w h0 hs h1 h2
    | false => cases h3 : at8 s 0 == 63 with
      | true => exact re_one s w h0 hs h1 h2 h3
      | false => cases h4 : at8 s 0 == 91 with
        | true => exact re_set s w h0 hs h1 h2 h3 h4
        | false => cases h5 : at8 s 0 == 47 with
          | true => exact re_slash s w h0 hs h1 h2 h3 h4 h5
          | false => exact re_byt s w h0 hs h1 h2 h3 h4 h5
end Go.Proofs.YtpipkgkfhbagmaaGreatDoor.Glob
