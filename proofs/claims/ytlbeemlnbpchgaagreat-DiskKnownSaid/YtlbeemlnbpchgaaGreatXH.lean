/- The statements' helpers: made, awake. Conditions: as at the disk. -/
import Derived.Test.YtlbeemlnbpchgaaGreatXG
namespace Go.Proofs.YtlbeemlnbpchgaaGreat
open Go.RowKit Go.Maps
theorem do_err {M : Mo} {x : Eff} {c : Int} (hf : M.fuse ≠ 0) (h : (stepE M.room M.now x).1 = c) (hc : c ≠ 0) : doM M x = (c, M) := by
  unfold doM; rw [if_neg hf, h, if_neg hc]
section
variable {w0 w : World} {q : Nat} {M : Mo} {ds : List (Nat × Mo)} {r : Int × Mo}
/-- What a call that does something leaves. -/
def DoneP (w0 : World) (q : Nat) (ds : List (Nat × Mo)) (c : Int) (K : Mo) (e : Ending) (w' : World) : Prop := e = .returned (.int .i64 c) ∧ Lv w0 w' ((q, K) :: ds)
variable (h : Lv w0 w ((q, M) :: ds)) (hG : Gd w0) {c : Int} {K : Mo}
include h hG
theorem eWrite (p d : By) (tm : Int) (hp : p.length ≤ 4000) (hd : d.length ≤ 1000000) (hlen : M.since.length + 1 ≤ 100000) (he : doM M (.write p d tm) = (c, K)) : Calls Tryz.prog 22 #[.pointer (some ⟨q, 0, none⟩), kS p, kS d, .int .i64 tm] w fun e w' => DoneP w0 q ds c K e w' := by
  have := lWrite h hG p d tm hp hd hlen
  rw [he] at this
  exact this
theorem eAppend (p d : By) (hp : p.length ≤ 4000) (hd : d.length ≤ 1000000) (hlen : M.since.length + 1 ≤ 100000) (he : doM M (.append p d) = (c, K)) : Calls Tryz.prog 23 #[.pointer (some ⟨q, 0, none⟩), kS p, kS d] w fun e w' => DoneP w0 q ds c K e w' := by
  have := lAppend h hG p d hp hd hlen
  rw [he] at this
  exact this
theorem eLink (p d : By) (tm : Int) (hp : p.length ≤ 4000) (hd : d.length ≤ 1000000) (hlen : M.since.length + 1 ≤ 100000) (he : doM M (.link p d tm) = (c, K)) : Calls Tryz.prog 32 #[.pointer (some ⟨q, 0, none⟩), kS p, kS d, .int .i64 tm] w fun e w' => DoneP w0 q ds c K e w' := by
  have := lLink h hG p d tm hp hd hlen
  rw [he] at this
  exact this
theorem eRename (p d : By) (hp : p.length ≤ 4000) (hd : d.length ≤ 4000) (hlen : M.since.length + 1 ≤ 100000) (he : doM M (.rename p d) = (c, K)) : Calls Tryz.prog 24 #[.pointer (some ⟨q, 0, none⟩), kS p, kS d] w fun e w' => DoneP w0 q ds c K e w' := by
  have := lRename h hG p d hp hd hlen
  rw [he] at this
  exact this
theorem eMkdir (p : By) (hp : p.length ≤ 4000) (hlen : M.since.length + 1 ≤ 100000) (he : doM M (.mkdir p) = (c, K)) : Calls Tryz.prog 21 #[.pointer (some ⟨q, 0, none⟩), kS p] w fun e w' => DoneP w0 q ds c K e w' := by
  have := lMkdir h hG p hp hlen
  rw [he] at this
  exact this
theorem eRemove (p : By) (hp : p.length ≤ 4000) (hlen : M.since.length + 1 ≤ 100000) (he : doM M (.remove p) = (c, K)) : Calls Tryz.prog 33 #[.pointer (some ⟨q, 0, none⟩), kS p] w fun e w' => DoneP w0 q ds c K e w' := by
  have := lRemove h hG p hp hlen
  rw [he] at this
  exact this
end
/-- The disk that made makes. -/
def madeM : Mo := (doM (doM (doM (newM 1024) (.mkdir [97])).2 (.write [97, 47, 98] [120] 1)).2 (.append [97, 47, 98] [121])).2
set_option maxRecDepth 100000 in
set_option maxHeartbeats 4000000 in
theorem made_any (w : World) (hG : Gd w) : Calls Tryz.prog 20 #[.int .i64 1024] w fun e w' => PlayP w madeM e w' := by
  have C1 := hid (lNew (Lv.nil w) 1024 (by omega) (by omega))
  have HG := hid hG
  obtain ⟨M1, H1⟩ : ∃ K, Hid ((doM (newM 1024) (.mkdir [97])).2 = K) := ⟨_, rfl⟩
  obtain ⟨M2, H2⟩ : ∃ K, Hid ((doM M1 (.write [97, 47, 98] [120] 1)).2 = K) := ⟨_, rfl⟩
  have H3 : Hid (madeM = (doM M2 (.append [97, 47, 98] [121])).2) := by show _ = _; rw [← H2.out, ← H1.out]; rfl
  have N1 : Hid (M1.since.length ≤ 1) := by show _ ≤ _; rw [← H1.out]; exact since_do _ _
  have N2 : Hid (M2.since.length ≤ 2) := by show _ ≤ _; rw [← H2.out]; have := since_do M1 (.write [97, 47, 98] [120] 1); have := N1.out; omega
  clear hG
  go_enter Tryz.func20, Tryz.ntmps20
  go_wp2_with fail
  refine C1.out.mono ?_; rintro e1 w1 ⟨p, rfl, hl1⟩
  have L1 := hid hl1
  clear hl1
  go_wp2_with fail
  refine (lMkdir L1.out HG.out [97] (by decide) (by decide)).mono ?_; rintro e2 w2 ⟨rfl, hl2⟩
  rw [H1.out] at hl2
  have L2 := hid hl2
  clear hl2
  go_wp2_with fail
  refine (lWrite L2.out HG.out [97, 47, 98] [120] 1 (by decide) (by decide) (by have := N1.out; omega)).mono ?_; rintro e3 w3 ⟨rfl, hl3⟩
  rw [H2.out] at hl3
  have L3 := hid hl3
  clear hl3
  go_wp2_with fail
  refine (lAppend L3.out HG.out [97, 47, 98] [121] (by decide) (by decide) (by have := N2.out; omega)).mono ?_; rintro e4 w4 ⟨rfl, hl4⟩
  rw [← H3.out] at hl4
  have L4 := hid hl4
  clear hl4
  go_wp2
  go_ret
  exact ⟨p, rfl, L4.out⟩
theorem m_read : readM madeM.now [97, 47, 98] = (⟨1, [120, 121], [], 1⟩, 0) := by decide +kernel
theorem m_fuse : madeM.fuse ≠ 0 := by decide +kernel
theorem m_room : madeM.room = 1024 := by decide +kernel
theorem m_mkdir : doM madeM (.mkdir [97]) = (6, madeM) := do_err m_fuse (by decide +kernel) (by decide)
theorem m_write : doM madeM (.write [99, 47, 98] [] 1) = (5, madeM) := do_err m_fuse (by decide +kernel) (by decide)
theorem m_remove : doM madeM (.remove [97]) = (22, madeM) := do_err m_fuse (by decide +kernel) (by decide)
theorem m_used : usedL madeM.now = 130 := by decide +kernel
theorem m_pend : madeM.since.length = 3 := by decide +kernel
set_option maxRecDepth 100000 in
set_option maxHeartbeats 4000000 in
theorem awake_any (w : World) (hG : Gd w) : Calls Tryz.prog 9 #[] w fun e w' => e = .returned (.bool true) ∧ Below w.heap.size w w' := by
  have HG := hid hG
  have C1 := hid (made_any w hG)
  obtain ⟨K, HK⟩ : ∃ K, Hid (madeM = K) := ⟨_, rfl⟩
  have F1 := hid m_read
  have F2 := hid m_mkdir
  have F3 := hid m_write
  have F4 := hid m_remove
  have F5 := hid m_used
  have F6 := hid m_pend
  rw [HK.out] at C1 F1 F2 F3 F4 F5 F6
  clear hG HK
  go_enter Tryz.func9, Tryz.ntmps9
  go_wp2_with fail
  refine C1.out.mono ?_; rintro e1 w1 ⟨p, rfl, hl1⟩
  have L1 := hid hl1
  clear hl1
  go_wp2_with fail
  refine (lIs L1.out HG.out [97, 47, 98] [120, 121] 1 (by decide) F1.out).mono ?_; rintro e2 w2 ⟨rfl, hl2⟩
  have L2 := hid hl2
  clear hl2
  go_wp2_with fail
  refine (eMkdir L2.out HG.out [97] (by decide) (by have := F6.out; omega) F2.out).mono ?_; rintro e3 w3 ⟨rfl, hl3⟩
  have L3 := hid hl3
  clear hl3
  go_wp2_with fail
  refine (eWrite L3.out HG.out [99, 47, 98] [] 1 (by decide) (by decide) (by have := F6.out; omega) F3.out).mono ?_; rintro e4 w4 ⟨rfl, hl4⟩
  have L4 := hid hl4
  clear hl4
  go_wp2_with fail
  refine (eRemove L4.out HG.out [97] (by decide) (by have := F6.out; omega) F4.out).mono ?_; rintro e5 w5 ⟨rfl, hl5⟩
  have L5 := hid hl5
  clear hl5
  go_wp2_with fail
  refine (lUsed L5.out).mono ?_; rintro e6 w6 ⟨rfl, rfl⟩
  rw [F5.out]
  go_wp2_with fail
  refine (lPending L5.out).mono ?_; rintro e7 w7 ⟨rfl, rfl⟩
  rw [F6.out]
  go_wp2
  go_ret
  exact ⟨rfl, L5.out.bl⟩
end Go.Proofs.YtlbeemlnbpchgaaGreat
