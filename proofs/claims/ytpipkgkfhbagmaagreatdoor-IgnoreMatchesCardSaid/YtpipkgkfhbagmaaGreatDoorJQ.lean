/- Glob, plain: step by step is the same as some parts, one behind the other. No program. -/
import Derived.Test.YtpipkgkfhbagmaaGreatDoorJP
namespace Go.Proofs.YtpipkgkfhbagmaaGreatDoor.Glob
open Go.RowKit
abbrev Hx := (UInt8 → Bool) × Bool
def whE (x : Hx) (k : By → Bool) : By → Bool
  | [] => x.2 && k []
  | c :: l => (x.2 && k (c :: l)) || (x.1 c && (if x.2 then whE x k l else k l))
/-- Do the elements match the whole of a text? -/
def wh : H → By → Bool
  | [] => List.isEmpty
  | x :: es => whE x (wh es)
def Mt (x : Hx) (v : By) : Prop := if x.2 = true then ∀ c ∈ v, x.1 c = true else ∃ c, v = [c] ∧ x.1 c = true
theorem whE_iff (x : Hx) (k : By → Bool) (l : By) : whE x k l = true ↔ ∃ u v, l = u ++ v ∧ Mt x u ∧ k v = true := by
  obtain ⟨h, m⟩ := x
  cases m with
  | true =>
    induction l with
    | nil =>
      simp only [whE, Bool.true_and, Mt, if_true]
      constructor
      · intro hk; exact ⟨[], [], rfl, fun c hc => (by cases hc), hk⟩
      · rintro ⟨u, v, e, _, hk⟩
        obtain ⟨rfl, rfl⟩ := List.append_eq_nil_iff.1 e.symm
        exact hk
    | cons c l ih =>
      simp only [whE, Bool.true_and, Bool.or_eq_true, Bool.and_eq_true, if_true]
      rw [ih]
      simp only [Mt, if_true]
      constructor
      · rintro (hk | ⟨hc, u, v, rfl, hu, hk⟩)
        · exact ⟨[], c :: l, rfl, fun c hc => (by cases hc), hk⟩
        · exact ⟨c :: u, v, rfl, fun d hd => (by
            rcases List.mem_cons.1 hd with rfl | hd
            · exact hc
            · exact hu d hd), hk⟩
      · rintro ⟨u, v, e, hu, hk⟩
        cases u with
        | nil => simp only [List.nil_append] at e; subst e; exact .inl hk
        | cons d u =>
          simp only [List.cons_append, List.cons.injEq] at e
          obtain ⟨rfl, rfl⟩ := e
          exact .inr ⟨hu c List.mem_cons_self, u, v, rfl, fun d hd => hu d (List.mem_cons_of_mem _ hd), hk⟩
  | false =>
    cases l with
    | nil =>
      simp only [whE, Bool.false_and, Mt]
      constructor
      · intro h; cases h
      · rintro ⟨u, v, e, hu, _⟩
        obtain ⟨rfl, rfl⟩ := List.append_eq_nil_iff.1 e.symm
        rw [if_neg (by decide)] at hu
        obtain ⟨c, hc, _⟩ := hu
        cases hc
    | cons c l =>
      simp only [whE, Bool.false_and, Bool.false_or, Bool.and_eq_true, Mt]
      constructor
      · rintro ⟨hc, hk⟩
        exact ⟨[c], l, rfl, (by rw [if_neg (by decide)]; exact ⟨c, rfl, hc⟩), hk⟩
      · rintro ⟨u, v, e, hu, hk⟩
        rw [if_neg (by decide)] at hu
        obtain ⟨d, rfl, hd⟩ := hu
        simp only [List.cons_append, List.nil_append, List.cons.injEq] at e
        obtain ⟨rfl, rfl⟩ := e
        exact ⟨hd, hk⟩
theorem wh_nil (l : By) : wh [] l = true ↔ l = [] := by cases l <;> simp [wh]
theorem wh_cons (x : Hx) (es : H) (l : By) : wh (x :: es) l = true ↔ ∃ u v, l = u ++ v ∧ Mt x u ∧ wh es v = true := whE_iff x (wh es) l
theorem wh_append (es fs : H) (l : By) : wh (es ++ fs) l = true ↔ ∃ u v, l = u ++ v ∧ wh es u = true ∧ wh fs v = true := by
  induction es generalizing l with
  | nil =>
    simp only [List.nil_append, wh_nil]
    constructor
    · intro h; exact ⟨[], l, rfl, rfl, h⟩
    · rintro ⟨u, v, rfl, rfl, h⟩; exact h
  | cons x es ih =>
    rw [List.cons_append, wh_cons]
    constructor
    · rintro ⟨u, v, rfl, hu, hv⟩
      obtain ⟨a, b, rfl, ha, hb⟩ := (ih v).1 hv
      exact ⟨u ++ a, b, by rw [List.append_assoc], (wh_cons _ _ _).2 ⟨u, a, rfl, hu, ha⟩, hb⟩
    · rintro ⟨u, v, rfl, hu, hv⟩
      obtain ⟨a, b, rfl, ha, hb⟩ := (wh_cons _ _ _).1 hu
      exact ⟨a, b ++ v, by rw [List.append_assoc], ha, (ih _).2 ⟨b, v, rfl, hb, hv⟩⟩
theorem wh_one (x : Hx) (l : By) : wh [x] l = true ↔ Mt x l := by
  rw [wh_cons]
  constructor
  · rintro ⟨u, v, rfl, hu, hv⟩
    obtain rfl := (wh_nil v).1 hv
    rw [List.append_nil]; exact hu
  · intro h; exact ⟨l, [], (List.append_nil _).symm, h, rfl⟩
def seg (path : By) (a i : Nat) : By := (path.drop a).take (i - a)
theorem seg_len (path : By) (a i : Nat) (h : i ≤ path.length) : (seg path a i).length = i - a := by unfold seg; rw [List.length_take, List.length_drop]; omega
theorem seg_self (path : By) (a : Nat) : seg path a a = [] := by unfold seg; simp
theorem at8_get {l : By} {i : Nat} (h : i < l.length) : at8 l i = l[i] := by simp [at8, List.getD, List.getElem?_eq_getElem h]
theorem seg_succ (path : By) (a i : Nat) (h1 : a ≤ i) (h2 : i < path.length) : seg path a (i + 1) = seg path a i ++ [at8 path i] := by
  unfold seg
  rw [show i + 1 - a = (i - a) + 1 by omega, List.take_succ_eq_append_getElem (by rw [List.length_drop]; omega), at8_get h2]
  congr 2
  rw [List.getElem_drop]
  congr 1; omega
theorem take_snoc (hs : H) (k : Nat) (h : k < hs.length) : hs.take (k + 1) = hs.take k ++ [hs[k]] := List.take_succ_eq_append_getElem h
theorem hx_many (hs : H) (k : Nat) (h : k < hs.length) : hs[k].2 = many hs k := by simp [many, List.getD, List.getElem?_eq_getElem h]
theorem hx_hold (hs : H) (k : Nat) (h : k < hs.length) (c : UInt8) : hs[k].1 c = hold hs k c := by simp [hold, List.getD, List.getElem?_eq_getElem h]
theorem many_lt {hs : H} {k : Nat} (h : many hs k = true) : k < hs.length := by
  by_cases hk : k < hs.length
  · exact hk
  · rw [many_ge (by omega)] at h; cases h
section
variable (rooted : Bool) (hs : H) (path : By)
/-- The first k elements, and perhaps some bytes of the next one that takes many, match what was read from some start on. -/
def Tk (i k : Nat) : Prop := ∃ a, a ≤ i ∧ startB rooted path a = true ∧ ∃ u v, seg path a i = u ++ v ∧ wh (hs.take k) u = true ∧ (if many hs k = true then ∀ c ∈ v, hold hs k c = true else v = [])
def Pk : Nat → Nat → Prop
  | 0, _ => False
  | i + 1, k => (k < hs.length ∧ many hs k = true ∧ Tk rooted hs path i k ∧ hold hs k (at8 path i) = true) ∨ ((0 < k ∧ k ≤ hs.length) ∧ many hs (k - 1) = false ∧ Tk rooted hs path i (k - 1) ∧ hold hs (k - 1) (at8 path i) = true)
theorem snoc_seg {a i : Nat} (hi : i ≤ path.length) {u : By} {c : UInt8} (h : seg path a i = u ++ [c]) : ∃ j, i = j + 1 ∧ a ≤ j ∧ seg path a j = u ∧ at8 path j = c := by
  have hl := seg_len path a i hi
  rw [h] at hl
  simp only [List.length_append, List.length_singleton] at hl
  obtain ⟨j, rfl⟩ : ∃ j, i = j + 1 := ⟨i - 1, by omega⟩
  refine ⟨j, rfl, by omega, ?_⟩
  rw [seg_succ path a j (by omega) (by omega)] at h
  have := List.append_inj' h rfl
  simpa using this
theorem snoc_cases (v : By) : v = [] ∨ ∃ w c, v = w ++ [c] := by
  rcases List.eq_nil_or_concat v with h | ⟨w, c, h⟩
  · exact .inl h
  · exact .inr ⟨w, c, by rw [h]; simp⟩
theorem Tk_iff (i k : Nat) (hi : i ≤ path.length) (hk : k ≤ hs.length) : Tk rooted hs path i k ↔ Pk rooted hs path i k ∨ (k = 0 ∧ startB rooted path i = true) ∨ (0 < k ∧ many hs (k - 1) = true ∧ Tk rooted hs path i (k - 1)) := by
  constructor
  · rintro ⟨a, ha, hst, u, v, hsg, hu, hv⟩
    rcases snoc_cases v with rfl | ⟨v', c, rfl⟩
    · rw [List.append_nil] at hsg
      cases k with
      | zero =>
        rw [List.take_zero, wh_nil] at hu
        subst hu
        have := seg_len path a i hi
        rw [hsg] at this
        simp only [List.length_nil] at this
        obtain rfl : a = i := by omega
        exact .inr (.inl ⟨rfl, hst⟩)
      | succ k =>
        rw [take_snoc hs k (by omega), wh_append] at hu
        obtain ⟨u1, v1, rfl, hu1, hv1⟩ := hu
        rw [wh_one] at hv1
        unfold Mt at hv1
        rw [hx_many] at hv1
        cases hm : many hs k with
        | true =>
          rw [hm, if_pos rfl] at hv1
          refine .inr (.inr ⟨by omega, by simpa using hm, a, ha, hst, u1, v1, hsg, by simpa using hu1, ?_⟩)
          simp only [Nat.add_sub_cancel]
          rw [hm, if_pos rfl]
          intro c hc; rw [← hx_hold hs k (by omega)]; exact hv1 c hc
        | false =>
          rw [hm, if_neg (by decide)] at hv1
          obtain ⟨c, rfl, hc⟩ := hv1
          obtain ⟨j, rfl, haj, hj, rfl⟩ := snoc_seg path hi hsg
          refine .inl (.inr ⟨⟨by omega, hk⟩, by simpa using hm, ⟨a, haj, hst, u1, [], by rw [List.append_nil]; exact hj, by simpa using hu1, ?_⟩, ?_⟩)
          · simp [hm]
          · simp only [Nat.add_sub_cancel]; rw [← hx_hold hs k (by omega)]; exact hc
    · cases hm : many hs k with
      | false => rw [hm, if_neg (by decide)] at hv; simp at hv
      | true =>
        rw [hm, if_pos rfl] at hv
        rw [← List.append_assoc] at hsg
        obtain ⟨j, rfl, haj, hj, rfl⟩ := snoc_seg path hi hsg
        refine .inl (.inl ⟨many_lt hm, hm, ⟨a, haj, hst, u, v', hj, hu, ?_⟩, hv _ (by simp)⟩)
        rw [hm, if_pos rfl]
        intro c hc; exact hv c (by simp [hc])
  · rintro (hp | ⟨rfl, hst⟩ | ⟨hk0, hm, a, ha, hst, u, v, hsg, hu, hv⟩)
    · cases i with
      | zero => exact absurd hp (by unfold Pk; exact id)
      | succ i =>
        unfold Pk at hp
        rcases hp with ⟨hkl, hm, ⟨a, ha, hst, u, v, hsg, hu, hv⟩, hh⟩ | ⟨⟨hk0, hk1⟩, hm, ⟨a, ha, hst, u, v, hsg, hu, hv⟩, hh⟩
        · refine ⟨a, by omega, hst, u, v ++ [at8 path i], by rw [seg_succ path a i ha (by omega), hsg, List.append_assoc], hu, ?_⟩
          rw [hm, if_pos rfl] at hv ⊢
          intro c hc
          rcases List.mem_append.1 hc with h | h
          · exact hv c h
          · simp only [List.mem_singleton] at h; rw [h]; exact hh
        · obtain ⟨k, rfl⟩ : ∃ j, k = j + 1 := ⟨k - 1, by omega⟩
          simp only [Nat.add_sub_cancel] at hm hu hv hh
          rw [hm, if_neg (by decide)] at hv
          subst hv
          rw [List.append_nil] at hsg
          refine ⟨a, by omega, hst, u ++ [at8 path i], [], by rw [seg_succ path a i ha (by omega), hsg, List.append_nil], ?_, ?_⟩
          · rw [take_snoc hs k (by omega), wh_append]
            refine ⟨u, [at8 path i], rfl, hu, ?_⟩
            rw [wh_one]; unfold Mt; rw [hx_many, hm, if_neg (by decide)]
            exact ⟨_, rfl, by rw [hx_hold]; exact hh⟩
          · split
            · intro c hc; cases hc
            · rfl
    · refine ⟨i, Nat.le_refl _, hst, [], [], by rw [seg_self]; rfl, by rw [List.take_zero]; rfl, ?_⟩
      split
      · intro c hc; cases hc
      · rfl
    · obtain ⟨k, rfl⟩ : ∃ j, k = j + 1 := ⟨k - 1, by omega⟩
      simp only [Nat.add_sub_cancel] at hm hu hv
      rw [hm, if_pos rfl] at hv
      refine ⟨a, ha, hst, u ++ v, [], by rw [hsg, List.append_nil], ?_, ?_⟩
      · rw [take_snoc hs k (by omega), wh_append]
        refine ⟨u, v, rfl, hu, ?_⟩
        rw [wh_one]; unfold Mt; rw [hx_many, hm, if_pos rfl]
        intro c hc; rw [hx_hold]; exact hv c hc
      · split
        · intro c hc; cases hc
        · rfl
theorem atTryziff_of (i : Nat) (hi : i ≤ path.length) (hpre : ∀ k, k ≤ hs.length → (preA rooted hs path i k = true ↔ Pk rooted hs path i k)) : ∀ k, k ≤ hs.length → (atA rooted hs path i k = true ↔ Tk rooted hs path i k) := by
  intro k
  induction k with
  | zero =>
    intro hk
    rw [Tk_iff rooted hs path i 0 hi hk]
    unfold atA skipA startA
    simp only [Bool.or_eq_true, Bool.and_eq_true, beq_self_eq_true, and_true]
    rw [hpre 0 hk]
    constructor
    · rintro (h | h)
      · exact .inr (.inl ⟨by first | rfl | trivial, h⟩)
      · exact .inl h
    · rintro (h | ⟨_, h⟩ | ⟨h, _⟩)
      · exact .inr h
      · exact .inl h
      · omega
  | succ k ih =>
    intro hk
    rw [Tk_iff rooted hs path i (k + 1) hi hk]
    have ih' := ih (by omega)
    unfold atA at ih' ⊢
    rw [skipA]
    simp only [Bool.or_eq_true, Bool.and_eq_true, Nat.add_sub_cancel]
    rw [ih']
    have e : startA (startB rooted path i) (preA rooted hs path i) (k + 1) = preA rooted hs path i (k + 1) := by unfold startA; simp
    rw [e, hpre (k + 1) hk]
    constructor
    · rintro (h | ⟨h1, h2⟩)
      · exact .inl h
      · exact .inr (.inr ⟨by omega, h2, h1⟩)
    · rintro (h | ⟨h, _⟩ | ⟨_, h2, h1⟩)
      · exact .inl h
      · omega
      · exact .inr ⟨h1, h2⟩
theorem atTryziff (i : Nat) : i ≤ path.length → ∀ k, k ≤ hs.length → (atA rooted hs path i k = true ↔ Tk rooted hs path i k) := by
  induction i with
  | zero =>
    intro hi
    refine atTryziff_of rooted hs path 0 hi fun k hk => ?_
    unfold preA Pk; simp
  | succ i ih =>
    intro hi
    refine atTryziff_of rooted hs path (i + 1) hi fun k hk => ?_
    have hA := ih (by omega)
    have e : preA rooted hs path (i + 1) k = stepA hs (atA rooted hs path i) (at8 path i) k := rfl
    rw [e]
    unfold stepA Pk
    simp only [Bool.or_eq_true, Bool.and_eq_true, decide_eq_true_eq, Bool.not_eq_true']
    constructor
    · rintro (⟨⟨⟨h1, h2⟩, h3⟩, h4⟩ | ⟨⟨⟨h1, h2⟩, h3⟩, h4⟩)
      · exact .inl ⟨h1, h2, (hA k hk).1 h3, h4⟩
      · exact .inr ⟨h1, h2, (hA (k - 1) (by omega)).1 h3, h4⟩
    · rintro (⟨h1, h2, h3, h4⟩ | ⟨h1, h2, h3, h4⟩)
      · exact .inl ⟨⟨⟨h1, h2⟩, (hA k hk).2 h3⟩, h4⟩
      · exact .inr ⟨⟨⟨h1, h2⟩, (hA (k - 1) (by omega)).2 h3⟩, h4⟩
/-- The document's words: some parts, one behind the other. -/
def Mat : Prop := ∃ a b, a ≤ b ∧ b ≤ path.length ∧ startB rooted path a = true ∧ endB path b = true ∧ wh hs (seg path a b) = true
theorem mB_iff : mB rooted hs path = true ↔ path.length ≤ 160 ∧ Mat rooted hs path := by
  unfold mB
  simp only [Bool.and_eq_true, decide_eq_true_eq, List.any_eq_true, List.mem_range]
  refine and_congr_right fun hl => ?_
  constructor
  · rintro ⟨b, hb, ha, he⟩
    obtain ⟨a, hab, hst, u, v, hsg, hu, hv⟩ := (atTryziff rooted hs path b (by omega) hs.length (Nat.le_refl _)).1 ha
    rw [many_ge (Nat.le_refl _), if_neg (by decide)] at hv
    subst hv
    rw [List.append_nil] at hsg
    rw [List.take_length] at hu
    exact ⟨a, b, hab, by omega, hst, he, by rw [hsg]; exact hu⟩
  · rintro ⟨a, b, hab, hb, hst, he, hw⟩
    refine ⟨b, by omega, (atTryziff rooted hs path b hb hs.length (Nat.le_refl _)).2 ⟨a, hab, hst, seg path a b, [], by rw [List.append_nil], by rw [List.take_length]; exact hw, ?_⟩, he⟩
    rw [many_ge (Nat.le_refl _), if_neg (by decide)]
/-- The same, to be reckoned. -/
def matchP : Bool := decide (path.length ≤ 160) && (List.range (path.length + 1)).any fun a => startB rooted path a && (List.range (path.length + 1)).any fun b => decide (a ≤ b) && endB path b && wh hs (seg path a b)
theorem matchP_iff : matchP rooted hs path = true ↔ path.length ≤ 160 ∧ Mat rooted hs path := by
  unfold matchP Mat
  simp only [Bool.and_eq_true, decide_eq_true_eq, List.any_eq_true, List.mem_range]
  refine and_congr_right fun hl => ?_
  constructor
  · rintro ⟨a, ha, hst, b, hb, ⟨hab, he⟩, hw⟩; exact ⟨a, b, hab, by omega, hst, he, hw⟩
  · rintro ⟨a, b, hab, hb, hst, he, hw⟩; exact ⟨a, by omega, hst, b, by omega, ⟨hab, he⟩, hw⟩
theorem mB_match : mB rooted hs path = matchP rooted hs path := by
  rw [Bool.eq_iff_iff, mB_iff, matchP_iff]
end
end Go.Proofs.YtpipkgkfhbagmaaGreatDoor.Glob
