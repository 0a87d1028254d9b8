/- The chapter's examples: what a disk is behind each step; limits. No conditions. -/
import Derived.Test.YtlbeemlnbpchgaaGreatXM
import Derived.Test.YtlbeemlnbpchgaaGreatShelf2
namespace Go.Proofs.YtlbeemlnbpchgaaGreat
open Go.RowKit Go.Maps
theorem rep_any (x : UInt8) (c : Nat) (h2 : 2 ≤ c) (h3 : c ≤ 1000) (w : World) : Calls Tryz.prog 31 #[.string ⟨#[x]⟩, .int .i64 (c : Int)] w fun e w' => e = .returned (.string (ba (List.replicate c x))) ∧ Below w.heap.size w w' := by
  refine (Tryz.strings_Repeat ⟨#[x]⟩ c w (by omega) (by show 1 * c ≤ _; omega)).mono fun e w' ⟨h1, h2⟩ => ⟨?_, h2⟩
  rw [h1]
  have : Lib.repeatL [x] c = List.replicate c x := by
    have := Lib.repeatL_replicate x 1 c
    simpa using this
  show Ending.returned (.string ⟨(Lib.repeatL [x] c).toArray⟩) = _
  rw [this]; rfl
theorem do_off {M : Mo} {x : Eff} (hf : M.fuse = 0) : doM M x = (20, M) := by unfold doM; rw [if_pos hf]
theorem pair_ok {r : Int × Mo} (h : r.1 = 0) : r = (0, r.2) := Prod.ext h rfl
theorem do_ok {M : Mo} {x : Eff} {K : Mo} (h : (doM M x).1 = 0) (hk : (doM M x).2 = K) : doM M x = (0, K) := Prod.ext h hk
section
variable {w0 w : World} {q : Nat} {M : Mo} {ds : List (Nat × Mo)} (h : Lv w0 w ((q, M) :: ds))
include h
theorem eFuse (n : Int) (hn : n ≤ 9223372036854775807) {c : Int} {K : Mo} (he : fuseM M n = (c, K)) : Calls Tryz.prog 36 #[.pointer (some ⟨q, 0, none⟩), .int .i64 n] w fun e w' => DoneP w0 q ds c K e w' := by
  have := lFuse h n hn
  rw [he] at this
  exact this
theorem eUsed {u : Nat} (hu : usedL M.now = u) : Calls Tryz.prog 27 #[.pointer (some ⟨q, 0, none⟩)] w fun e w' => e = .returned (.int .i64 (u : Int)) ∧ w = w' := by
  have := lUsed h
  rw [hu] at this
  exact this
theorem ePending {u : Nat} (hu : M.since.length = u) : Calls Tryz.prog 28 #[.pointer (some ⟨q, 0, none⟩)] w fun e w' => e = .returned (.int .i64 (u : Int)) ∧ w = w' := by
  have := lPending h
  rw [hu] at this
  exact this
theorem eOff {b : Bool} (hu : (M.fuse == 0) = b) : Calls Tryz.prog 37 #[.pointer (some ⟨q, 0, none⟩)] w fun e w' => e = .returned (.bool b) ∧ w = w' := by
  have := lOff h
  rw [hu] at this
  exact this
end
def r960 : By := List.replicate 960 120
def r1000 : By := List.replicate 1000 120
def lm0 : Mo := newM 1024
def lm1 : Mo := (doM lm0 (.write [97] r960 1)).2
theorem lmf0 : doM lm0 (.write [97] r960 1) = (0, lm1) := do_ok (by decide +kernel) rfl
theorem lmf1 : doM lm1 (.append [97] [120]) = (7, lm1) := do_err (by decide +kernel) (by decide +kernel) (by decide)
theorem lmf2 : doM lm1 (.mkdir [98]) = (7, lm1) := do_err (by decide +kernel) (by decide +kernel) (by decide)
def lm2 : Mo := (doM lm1 (.write [97] [120, 121] 1)).2
theorem lmf3 : doM lm1 (.write [97] [120, 121] 1) = (0, lm2) := do_ok (by decide +kernel) rfl
def lm3 : Mo := (doM lm2 (.write [98] [122] 1)).2
theorem lmf4 : doM lm2 (.write [98] [122] 1) = (0, lm3) := do_ok (by decide +kernel) rfl
def lm4 : Mo := (doM lm3 (.rename [97] [98])).2
theorem lmf5 : doM lm3 (.rename [97] [98]) = (0, lm4) := do_ok (by decide +kernel) rfl
def lm5 : Mo := (doM lm4 (.mkdir [120])).2
theorem lmf6 : doM lm4 (.mkdir [120]) = (0, lm5) := do_ok (by decide +kernel) rfl
def lm6 : Mo := (doM lm5 (.mkdir [120, 47, 121])).2
theorem lmf7 : doM lm5 (.mkdir [120, 47, 121]) = (0, lm6) := do_ok (by decide +kernel) rfl
def lm7 : Mo := (doM lm6 (.mkdir [112])).2
theorem lmf8 : doM lm6 (.mkdir [112]) = (0, lm7) := do_ok (by decide +kernel) rfl
def lm8 : Mo := (doM lm7 (.mkdir [112, 47, 112])).2
theorem lmf9 : doM lm7 (.mkdir [112, 47, 112]) = (0, lm8) := do_ok (by decide +kernel) rfl
def lm9 : Mo := (doM lm8 (.mkdir [112, 47, 112, 47, 112])).2
theorem lmf10 : doM lm8 (.mkdir [112, 47, 112, 47, 112]) = (0, lm9) := do_ok (by decide +kernel) rfl
def lm10 : Mo := (doM lm9 (.mkdir [112, 47, 112, 47, 112, 47, 112])).2
theorem lmf11 : doM lm9 (.mkdir [112, 47, 112, 47, 112, 47, 112]) = (0, lm10) := do_ok (by decide +kernel) rfl
def lm11 : Mo := (doM lm10 (.mkdir [112, 47, 112, 47, 112, 47, 112, 47, 112])).2
theorem lmf12 : doM lm10 (.mkdir [112, 47, 112, 47, 112, 47, 112, 47, 112]) = (0, lm11) := do_ok (by decide +kernel) rfl
theorem lmf13 : doM lm11 (.rename [120] [112, 47, 112, 47, 112, 47, 112, 47, 112, 47, 120]) = (10, lm11) := do_err (by decide +kernel) (by decide +kernel) (by decide)
def lm12 : Mo := (doM lm11 (.rename [120] [112, 47, 112, 47, 112, 47, 112, 47, 120])).2
theorem lmf14 : doM lm11 (.rename [120] [112, 47, 112, 47, 112, 47, 112, 47, 120]) = (0, lm12) := do_ok (by decide +kernel) rfl
def lmA : Mo := (fuseM lm12 1).2
def lmB : Mo := (syncM lmA).2
theorem lm_used1 : usedL lm1.now = 1024 := by decide +kernel
theorem lm_used2 : usedL lm4.now = 66 := by decide +kernel
theorem lm_fuse : fuseM lm12 1 = (0, lmA) := by unfold lmA; exact pair_ok (by decide +kernel)
theorem lm_sync : syncM lmA = (0, lmB) := by unfold lmB; exact pair_ok (by decide +kernel)
theorem lm_off : (lmB.fuse == 0) = true := by decide +kernel
set_option maxRecDepth 100000 in
set_option maxHeartbeats 16000000 in
theorem limits_any (w : World) (hG : Gd w) : Calls Tryz.prog 38 #[] w fun e w' => e = .returned (.bool true) ∧ Below w.heap.size w w' := by
  have HG := hid hG
  have C1 := hid (lNew (Lv.nil w) 1024 (by omega) (by omega))
  have CR : Hid (∀ W, Calls Tryz.prog 31 #[.string ⟨#[120]⟩, .int .i64 960] W fun e w' => e = .returned (kS r960) ∧ Below W.heap.size W w') := fun W => rep_any 120 960 (by omega) (by omega) W
  clear hG
  go_enter Tryz.func38, Tryz.ntmps38
  go_wp2_with fail
  refine C1.out.mono ?_; rintro e1 w1 ⟨p, rfl, hl1⟩
  have L0 : Hid (Lv w w1 [(p, lm0)]) := hl1
  clear hl1 C1
  go_wp2_with fail
  refine (CR.out _).mono ?_; rintro e2 w2 ⟨rfl, hb2⟩
  have LR := hid (L0.out.on hb2)
  clear hb2 L0
  go_wp2_with fail
  refine (eWrite LR.out HG.out [97] r960 1 (by decide) (by decide +kernel) (by decide +kernel) lmf0).mono ?_; rintro eL1 wL1 ⟨rfl, hlL1⟩
  have L1 := hid hlL1
  clear hlL1
  go_wp2_with fail
  refine (eUsed L1.out lm_used1).mono ?_; rintro eL2 wL2 ⟨rfl, rfl⟩
  go_wp2_with fail
  refine (eAppend L1.out HG.out [97] [120] (by decide) (by decide) (by decide +kernel) lmf1).mono ?_; rintro eL3 wL3 ⟨rfl, hlL3⟩
  have L3 := hid hlL3
  clear hlL3
  go_wp2_with fail
  refine (eMkdir L3.out HG.out [98] (by decide) (by decide +kernel) lmf2).mono ?_; rintro eL4 wL4 ⟨rfl, hlL4⟩
  have L4 := hid hlL4
  clear hlL4
  go_wp2_with fail
  refine (eWrite L4.out HG.out [97] [120, 121] 1 (by decide) (by decide +kernel) (by decide +kernel) lmf3).mono ?_; rintro eL5 wL5 ⟨rfl, hlL5⟩
  have L5 := hid hlL5
  clear hlL5
  go_wp2_with fail
  refine (eWrite L5.out HG.out [98] [122] 1 (by decide) (by decide +kernel) (by decide +kernel) lmf4).mono ?_; rintro eL6 wL6 ⟨rfl, hlL6⟩
  have L6 := hid hlL6
  clear hlL6
  go_wp2_with fail
  refine (eRename L6.out HG.out [97] [98] (by decide) (by decide) (by decide +kernel) lmf5).mono ?_; rintro eL7 wL7 ⟨rfl, hlL7⟩
  have L7 := hid hlL7
  clear hlL7
  go_wp2_with fail
  refine (eUsed L7.out lm_used2).mono ?_; rintro eL8 wL8 ⟨rfl, rfl⟩
  go_wp2_with fail
  refine (eMkdir L7.out HG.out [120] (by decide) (by decide +kernel) lmf6).mono ?_; rintro eL9 wL9 ⟨rfl, hlL9⟩
  have L9 := hid hlL9
  clear hlL9
  go_wp2_with fail
  refine (eMkdir L9.out HG.out [120, 47, 121] (by decide) (by decide +kernel) lmf7).mono ?_; rintro eL10 wL10 ⟨rfl, hlL10⟩
  have L10 := hid hlL10
  clear hlL10
  go_wp2_with fail
  refine (eMkdir L10.out HG.out [112] (by decide) (by decide +kernel) lmf8).mono ?_; rintro eL11 wL11 ⟨rfl, hlL11⟩
  have L11 := hid hlL11
  clear hlL11
  go_wp2_with fail
  refine (eMkdir L11.out HG.out [112, 47, 112] (by decide) (by decide +kernel) lmf9).mono ?_; rintro eL12 wL12 ⟨rfl, hlL12⟩
  have L12 := hid hlL12
  clear hlL12
  go_wp2_with fail
  refine (eMkdir L12.out HG.out [112, 47, 112, 47, 112] (by decide) (by decide +kernel) lmf10).mono ?_; rintro eL13 wL13 ⟨rfl, hlL13⟩
  have L13 := hid hlL13
  clear hlL13
  go_wp2_with fail
  refine (eMkdir L13.out HG.out [112, 47, 112, 47, 112, 47, 112] (by decide) (by decide +kernel) lmf11).mono ?_; rintro eL14 wL14 ⟨rfl, hlL14⟩
  have L14 := hid hlL14
  clear hlL14
  go_wp2_with fail
  refine (eMkdir L14.out HG.out [112, 47, 112, 47, 112, 47, 112, 47, 112] (by decide) (by decide +kernel) lmf12).mono ?_; rintro eL15 wL15 ⟨rfl, hlL15⟩
  have L15 := hid hlL15
  clear hlL15
  go_wp2_with fail
  refine (eRename L15.out HG.out [120] [112, 47, 112, 47, 112, 47, 112, 47, 112, 47, 120] (by decide) (by decide) (by decide +kernel) lmf13).mono ?_; rintro eL16 wL16 ⟨rfl, hlL16⟩
  have L16 := hid hlL16
  clear hlL16
  go_wp2_with fail
  refine (eRename L16.out HG.out [120] [112, 47, 112, 47, 112, 47, 112, 47, 120] (by decide) (by decide) (by decide +kernel) lmf14).mono ?_; rintro eL17 wL17 ⟨rfl, hlL17⟩
  have L17 := hid hlL17
  clear hlL17
  go_wp2_with fail
  refine (eFuse L17.out 1 (by decide) lm_fuse).mono ?_; rintro eL18 wL18 ⟨rfl, hlL18⟩
  have L18 := hid hlL18
  clear hlL18
  go_wp2_with fail
  refine (eSync L18.out lm_sync).mono ?_; rintro eL19 wL19 ⟨rfl, hlL19⟩
  have L19 := hid hlL19
  clear hlL19
  go_wp2_with fail
  refine (eOff L19.out lm_off).mono ?_; rintro eL20 wL20 ⟨rfl, rfl⟩
  go_wp2
  go_ret
  exact ⟨rfl, L19.out.bl⟩
end Go.Proofs.YtlbeemlnbpchgaaGreat
