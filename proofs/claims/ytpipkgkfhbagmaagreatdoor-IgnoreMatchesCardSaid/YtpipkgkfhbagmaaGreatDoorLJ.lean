/- ignore.Parse: what the call does. Conditions: at most 1000 files, of names and texts of at most 4000 bytes; a world in shape. -/
import Derived.Test.YtpipkgkfhbagmaaGreatDoorLI
namespace Go.Proofs.YtpipkgkfhbagmaaGreatDoor.Glob
open Go.RowKit Go.Maps
/-- What Parse answers. -/
def ParseOut (B : Nat) (fs : Fl) (name : By) (e : Ending) (W : World) : Prop :=
  match readL fs 4 [] name [] with
  | .error c => e = .returned (.tuple #[.pointer none, .int .i64 c]) ∧ c ≠ 0
  | .ok qs => ∃ L, e = .returned (.tuple #[ptrV L, .int .i64 0]) ∧ B ≤ L ∧ ListIs B W L qs ∧ qs.length ≤ 64
/-- What stands when the reading begins. -/
def bx (w w1 : World) (pm : Nat) (fv : Value) : Bx := ⟨w1.heap.size, w1.heap.size + 1 + 1, w1.heap.size + 1 + 1 + 1 + 1, w.heap.size, w1.heap.size + 1 + 1 + 1 + 1 + 1, w1.heap.size + 1 + 1 + 1, w1.heap.size + 1, pm, w.heap.size, fv⟩
theorem env_made {w W0 w1 : World} {pm c : Nat} {fv : Value} {fs : Fl} (b0 : Below w.heap.size w W0) (_s0 : W0.heap.size = w.heap.size + 1) (f0 : Has W0 w.heap.size 22 #[fv]) (hb1 : Below W0.heap.size W0 w1) (hf : FilesIs w1 fv fs) (hm : MapZ w1 (.int .i64 0) pm c (plF fs 0)) :
    ∀ W, W = ((((((w1.alloc (Obj.cells #[Value.map (some pm)] 36)).alloc (Obj.map #[] 0)).alloc (Obj.cells #[Value.map (some (w1.heap.size + 1))] 38)).alloc (Obj.cells #[Value.slice none 0 0] 41)).alloc (Obj.cells #[ptrV (w1.heap.size + 1 + 1 + 1)] 24)).alloc (Obj.cells #[readV (bx w w1 pm fv)] 42)) →
    Env (bx w w1 pm fv) fs W ∧ St (bx w w1 pm fv) fs [] W ∧ Below w.heap.size w W := by
  intro W hW
  have B1 : Below w.heap.size w w1 := b0.thenG hb1
  have f1 : Has w1 w.heap.size 22 #[fv] := f0.stays hb1
  obtain ⟨Wa, ha⟩ : ∃ Wa, w1.alloc (Obj.cells #[Value.map (some pm)] 36) = Wa := ⟨_, rfl⟩
  obtain ⟨Wb, hb⟩ : ∃ Wb, Wa.alloc (Obj.map #[] 0) = Wb := ⟨_, rfl⟩
  obtain ⟨Wc, hc⟩ : ∃ Wc, Wb.alloc (Obj.cells #[Value.map (some (w1.heap.size + 1))] 38) = Wc := ⟨_, rfl⟩
  obtain ⟨Wd, hd⟩ : ∃ Wd, Wc.alloc (Obj.cells #[Value.slice none 0 0] 41) = Wd := ⟨_, rfl⟩
  obtain ⟨We, he⟩ : ∃ We, Wd.alloc (Obj.cells #[ptrV (w1.heap.size + 1 + 1 + 1)] 24) = We := ⟨_, rfl⟩
  rw [ha, hb, hc, hd, he] at hW
  have sa : Wa.heap.size = w1.heap.size + 1 := by rw [← ha]; simp
  have sb : Wb.heap.size = w1.heap.size + 1 + 1 := by rw [← hb]; simp [sa]
  have sc : Wc.heap.size = w1.heap.size + 1 + 1 + 1 := by rw [← hc]; simp [sb]
  have sd : Wd.heap.size = w1.heap.size + 1 + 1 + 1 + 1 := by rw [← hd]; simp [sc]
  have se : We.heap.size = w1.heap.size + 1 + 1 + 1 + 1 + 1 := by rw [← he]; simp [sd]
  have ba : Below w1.heap.size w1 Wa := ha ▸ (Below.refl _ _).alloc (Nat.le_refl _) _
  have bb : Below Wa.heap.size Wa Wb := hb ▸ (Below.refl _ _).alloc (Nat.le_refl _) _
  have bc : Below Wb.heap.size Wb Wc := hc ▸ (Below.refl _ _).alloc (Nat.le_refl _) _
  have bd : Below Wc.heap.size Wc Wd := hd ▸ (Below.refl _ _).alloc (Nat.le_refl _) _
  have be : Below Wd.heap.size Wd We := he ▸ (Below.refl _ _).alloc (Nat.le_refl _) _
  have bf : Below We.heap.size We W := hW ▸ (Below.refl _ _).alloc (Nat.le_refl _) _
  have be2 := be.thenG bf
  have bd2 := bd.thenG be2
  have bc2 := bc.thenG bd2
  have bb2 := bb.thenG bc2
  have ba2 := ba.thenG bb2
  have h1 : Has W w1.heap.size 36 #[.map (some pm)] := (ha ▸ Has.fresh w1 36 _ : Has Wa w1.heap.size 36 _).stays bb2
  have h2 : MapZ W zR (w1.heap.size + 1) 0 (fun _ => none) := by
    have := MapZ.made Wa zR
    rw [hb, sa] at this
    exact this.kept (bc2.block _ this.inside)
  have h3 : Has W (w1.heap.size + 1 + 1) 38 #[.map (some (w1.heap.size + 1))] := (hc ▸ Has.fresh' Wb 38 _ sb.symm : Has Wc (w1.heap.size + 1 + 1) 38 _).stays bd2
  have h4 : Has W (w1.heap.size + 1 + 1 + 1) 41 #[.slice none 0 0] := (hd ▸ Has.fresh' Wc 41 _ sc.symm : Has Wd (w1.heap.size + 1 + 1 + 1) 41 _).stays be2
  have h5 : Has W (w1.heap.size + 1 + 1 + 1 + 1) 24 #[ptrV (w1.heap.size + 1 + 1 + 1)] := (he ▸ Has.fresh' Wd 24 _ sd.symm : Has We (w1.heap.size + 1 + 1 + 1 + 1) 24 _).stays bf
  have h6 : Has W (w1.heap.size + 1 + 1 + 1 + 1 + 1) 42 #[readV (bx w w1 pm fv)] := hW ▸ Has.fresh' We 42 _ se.symm
  have hpm := hm.inside
  have hsz := B1.size
  refine ⟨⟨h1, h3, h5, f1.stays ba2, h6, hf.stays ba2, ⟨c, hm.kept (ba2.block _ hm.inside)⟩, ?_, ?_⟩, ⟨⟨_, h4, Pats.nil _ _⟩, ⟨0, _, h2, Done.none _ _⟩, ?_⟩, B1.thenG ba2⟩
  · show pm ≠ w1.heap.size + 1; omega
  · show w.heap.size ≤ w1.heap.size + 1; omega
  · show w.heap.size ≤ w1.heap.size + 1 + 1 + 1; omega
set_option maxRecDepth 100000 in
set_option maxHeartbeats 4000000 in
theorem iparse_any (fs : Fl) (name : By) (v : Value) (w : World) (hgd : Gd w) (hf : FilesIs w v fs) (hfl : fs.length ≤ 1000) (hn : ∀ i (hi : i < fs.length), fs[i].1.length ≤ 100000) (htx : ∀ i (hi : i < fs.length), fs[i].2.length ≤ 100000) (hnm : name.length ≤ 1000000000000000) :
    Calls Tryz.prog 4 #[v, .string (ba name)] w fun e W => ParseOut w.heap.size fs name e W ∧ Below w.heap.size w W := by
  have hmm := @run_makeMap Tryz.prog
  have hmf : ∀ (fn : Fn) (first cap : Array Value) (w : World), (Instr.makeFunc fn first cap).run Tryz.prog w = .ok (.func fn first cap) w := fun _ _ _ _ => rfl
  obtain ⟨W0, hW0⟩ : ∃ W0, w.alloc (.cells #[v] 22) = W0 := ⟨_, rfl⟩
  have b0 : Below w.heap.size w W0 := hW0 ▸ (Below.refl _ _).alloc (Nat.le_refl _) _
  have f0 : Has W0 w.heap.size 22 #[v] := hW0 ▸ Has.fresh _ _ _
  have s0 : W0.heap.size = w.heap.size + 1 := by rw [← hW0]; simp
  have HPL := hid (places_any v fs W0 (hf.stays b0) hfl hn)
  have HF := hid (hf.stays b0)
  have HB0 := hid b0
  have HF0 := hid f0
  have HGD := hid hgd
  have HRD := hid (fun x (h : x.B = w.heap.size) => read_ok x fs w hgd h hfl htx 4)
  have HNM := hid hnm
  obtain ⟨A, cp, hv⟩ := hf.form
  obtain ⟨nf, hnf⟩ : ∃ nf, fs.length = nf := ⟨_, rfl⟩
  rw [hnf] at hv
  subst hv
  have cf0 := f0.at_ 0
  clear hf hn htx hfl hgd hnm f0 b0
  go_enter Tryz.func4, Tryz.ntmps4
  go_wp2_with (fail)
  refine HPL.out.mono ?_
  rintro e1 w1 ⟨⟨pm, c, rfl, hpm, hm⟩, hb1⟩
  have HM1 := hid hm
  have HB1 := hid hb1
  have HPM := hid hpm
  clear hm hb1 hpm
  obtain ⟨W6, hW6⟩ : ∃ W, W = ((((((w1.alloc (Obj.cells #[Value.map (some pm)] 36)).alloc (Obj.map #[] 0)).alloc (Obj.cells #[Value.map (some (w1.heap.size + 1))] 38)).alloc (Obj.cells #[Value.slice none 0 0] 41)).alloc (Obj.cells #[ptrV (w1.heap.size + 1 + 1 + 1)] 24)).alloc (Obj.cells #[readV (bx w w1 pm (.slice A nf cp))] 42)) := ⟨_, rfl⟩
  obtain ⟨HEV, HST, HBW⟩ := env_made (fs := fs) HB0.out s0 HF0.out HB1.out (HF.out.stays HB1.out) HM1.out W6 hW6
  have HEV := hid HEV
  have HST := hid HST
  have HBW := hid HBW
  have HCR := hid (HRD.out (bx w w1 pm (.slice A nf cp)) rfl [] name [] (.slice none 0 0) W6 rfl HNM.out HEV.out HST.out (World.ownsRow_nil _ _ _ _) (Chain.nil _ _) (by simp) HBW.out)
  obtain ⟨g, HG⟩ : ∃ g, Hid (readL fs 4 [] name [] = g) := ⟨_, rfl⟩
  rw [HG.out] at HCR
  unfold readV ptrV bx at hW6
  dsimp only at hW6
  unfold ptrV at HCR
  go_wp2_with (fail)
  rw [← hW6]
  refine HCR.out.mono ?_
  intro e6 w6 h6
  obtain ⟨h6, hf6, hb6⟩ := h6
  have HLB : Hid (Has w6 (w1.heap.size + 1 + 1 + 1 + 1) 24 #[ptrV (w1.heap.size + 1 + 1 + 1)]) := (HEV.out.fr hf6).l
  have HB6 := hid hb6
  have hclb := HLB.out.at_ 0
  unfold ptrV at hclb
  clear hf6 hb6
  cases g with
  | error c =>
    obtain ⟨rfl, hc, _⟩ := h6.of_err
    have hcz : (c == 0) = false := by simp [hc]
    have HC := hid hc
    clear h6 hc
    go_wp2
    go_ret2
    refine ⟨?_, HB6.out⟩
    unfold ParseOut
    rw [HG.out]
    exact ⟨rfl, HC.out⟩
  | ok rs =>
    obtain ⟨rfl, hs6, _⟩ := h6.of_ok
    have HS6 := hid hs6
    clear h6 hs6
    go_wp2
    go_ret2
    refine ⟨?_, HB6.out⟩
    unfold ParseOut
    rw [HG.out]
    exact ⟨_, rfl, HS6.out.low, HS6.out.list, readL_64 _ _ _ _ _ _ HG.out (by simp)⟩
end Go.Proofs.YtpipkgkfhbagmaaGreatDoor.Glob
