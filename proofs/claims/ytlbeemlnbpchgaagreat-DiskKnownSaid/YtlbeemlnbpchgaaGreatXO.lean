/- The walk of DiskKnown. No conditions. -/
import Derived.Test.YtlbeemlnbpchgaaGreatXN
namespace Go.Proofs.YtlbeemlnbpchgaaGreat
open Go.RowKit Go.Maps
def ka0 : Mo := madeM
theorem kaf0 : doM ka0 (.mkdir [97, 47, 98, 47, 99]) = (12, ka0) := do_err (by decide +kernel) (by decide +kernel) (by decide)
theorem kaf1 : doM ka0 (.write [97] [] 1) = (12, ka0) := do_err (by decide +kernel) (by decide +kernel) (by decide)
theorem kaf2 : doM ka0 (.append [97] []) = (12, ka0) := do_err (by decide +kernel) (by decide +kernel) (by decide)
theorem kaf3 : doM ka0 (.rename [97] [97, 47, 99]) = (2, ka0) := do_err (by decide +kernel) (by decide +kernel) (by decide)
def ka1 : Mo := (doM ka0 (.rename [97] [100])).2
theorem kaf4 : doM ka0 (.rename [97] [100]) = (0, ka1) := do_ok (by decide +kernel) rfl
def kb0 : Mo := (syncM ka1).2
def kb1 : Mo := (doM kb0 (.write [100, 47, 98] [108, 111, 110, 103] 2)).2
theorem kbf0 : doM kb0 (.write [100, 47, 98] [108, 111, 110, 103] 2) = (0, kb1) := do_ok (by decide +kernel) rfl
def kc0 : Mo := crashM kb1 [4]
theorem kcf0 : doM kc0 (.write [101] r1000 1) = (7, kc0) := do_err (by decide +kernel) (by decide +kernel) (by decide)
theorem kcf1 : doM kc0 (.write [] [] 1) = (10, kc0) := do_err (by decide +kernel) (by decide +kernel) (by decide)
theorem kcf2 : doM kc0 (.write [101] [] (-1)) = (2, kc0) := do_err (by decide +kernel) (by decide +kernel) (by decide)
theorem kcf3 : doM kc0 (.link [101] [] 1) = (2, kc0) := do_err (by decide +kernel) (by decide +kernel) (by decide)
theorem kcf4 : doM kc0 (.remove [101]) = (5, kc0) := do_err (by decide +kernel) (by decide +kernel) (by decide)
def kc1 : Mo := (doM kc0 (.link [101] [100, 47, 98] 3)).2
theorem kcf5 : doM kc0 (.link [101] [100, 47, 98] 3) = (0, kc1) := do_ok (by decide +kernel) rfl
theorem kcf6 : doM kc1 (.write [101] [] 1) = (11, kc1) := do_err (by decide +kernel) (by decide +kernel) (by decide)
theorem kcf7 : doM kc1 (.append [101] []) = (11, kc1) := do_err (by decide +kernel) (by decide +kernel) (by decide)
theorem kcf8 : doM kc1 (.rename [100] [101]) = (12, kc1) := do_err (by decide +kernel) (by decide +kernel) (by decide)
def kc2 : Mo := (doM kc1 (.rename [100, 47, 98] [101])).2
theorem kcf9 : doM kc1 (.rename [100, 47, 98] [101]) = (0, kc2) := do_ok (by decide +kernel) rfl
def kd0 : Mo := (fuseM kc2 1).2
def kd1 : Mo := (doM kd0 (.mkdir [103])).2
theorem kdf0 : doM kd0 (.mkdir [103]) = (0, kd1) := do_ok (by decide +kernel) rfl
def ke0 : Mo := crashM kd1 [1]
def ke1 : Mo := (doM ke0 (.mkdir [104])).2
theorem kef0 : doM ke0 (.mkdir [104]) = (0, ke1) := do_ok (by decide +kernel) rfl
def kf0 : Mo := (fuseM ke1 0).2
theorem ka_list : listM ka1.now [] = ([[100]], 0) := by
  have h1 : childL ka1.now [] = [[100]] := by decide +kernel
  have h2 : noDirE ka1.now [] = 0 := by decide +kernel
  unfold listM
  rw [if_neg (by decide), if_pos h2, h1]
  unfold sortL
  rw [List.mergeSort_singleton]
theorem ka_paths : pathsL ka1.now = [[100], [100, 47, 98]] := by decide +kernel
theorem ka_used : usedL ka1.now = 130 := by decide +kernel
theorem ka_pend : ka1.since.length = 4 := by decide +kernel
theorem ka_sync : syncM ka1 = (0, kb0) := by unfold kb0; exact pair_ok (by decide +kernel)
theorem kb_crash : crashM kb1 (nats [4]) = kc0 := by unfold kc0; rfl
theorem kc_read : readM kc0.now [100, 47, 98] = (⟨1, [108, 111], [], 2⟩, 0) := by decide +kernel
theorem kc_pend : kc0.since.length = 0 := by decide +kernel
theorem kc_read2 : readM kc2.now [101] = (⟨1, [108, 111], [], 2⟩, 0) := by decide +kernel
theorem kc_fuse1 : fuseM kc2 (-1) = (2, kc2) := by unfold fuseM; rw [if_pos (by decide)]
theorem kc_fuse : fuseM kc2 1 = (0, kd0) := by unfold kd0; exact pair_ok (by decide +kernel)
theorem kd_off0 : (kd0.fuse == 0) = false := by decide +kernel
theorem kd_off1 : (kd1.fuse == 0) = true := by decide +kernel
theorem kd_f : kd1.fuse = 0 := by decide +kernel
theorem kd_mk1 : doM kd1 (.mkdir [104]) = (20, kd1) := do_off kd_f
theorem kd_mk2 : doM kd1 (.mkdir [47]) = (20, kd1) := do_off kd_f
theorem kd_sync : syncM kd1 = (20, kd1) := by unfold syncM; rw [if_pos kd_f]
theorem kd_fuse : fuseM kd1 5 = (20, kd1) := by unfold fuseM; rw [if_neg (by decide), if_pos kd_f]
theorem kd_crash : crashM kd1 (nats [1]) = ke0 := by unfold ke0; rfl
theorem ke_off : (ke0.fuse == 0) = false := by decide +kernel
theorem ke_fuse : fuseM ke1 0 = (0, kf0) := by unfold kf0; exact pair_ok (by decide +kernel)
theorem kf_off : (kf0.fuse == 0) = true := by decide +kernel
theorem kf_room : kf0.room = 1024 := by decide +kernel
/-- A disk beside one that is none. -/
structure LvZ (w0 w : World) (q : Nat) (M : Mo) (b : Nat) : Prop where
  bl : Below w0.heap.size w0 w
  d : ∃ own, Dsk own w q M ∧ (∀ g, own g → w0.heap.size ≤ g) ∧ ¬ own b
  z : Has w b 62 zeroD
section
variable {w0 w w' : World} {q b : Nat} {M K : Mo} {c : Int}
theorem LvZ.make {ds : List (Nat × Mo)} (h : Lv w0 w ((q, M) :: ds)) : LvZ w0 (w.alloc (.cells zeroD 62)) q M w.heap.size := by
  obtain ⟨own, h1, h2⟩ := h.head
  exact ⟨h.bl.alloc h.bl.size _, ⟨own, h1.on ((Below.refl _ _).alloc (Nat.le_refl _) _), h2, fun k => by have := h1.low _ k; omega⟩, Has.fresh _ _ _⟩
theorem LvZ.on (h : LvZ w0 w q M b) (hb : Below w.heap.size w w') : LvZ w0 w' q M b := by
  obtain ⟨own, h1, h2, h3⟩ := h.d
  exact ⟨h.bl.trans (hb.mono h.bl.size), ⟨own, h1.on hb, h2, h3⟩, h.z.kept hb h.z.inside⟩
theorem LvZ.step (h : LvZ w0 w q M b) : ∃ own, Dsk own w q M ∧ (∀ g, own g → w0.heap.size ≤ g) ∧ ∀ w' K, DPost own w q K w' → LvZ w0 w' q K b := by
  obtain ⟨own, h1, h2, h3⟩ := h.d
  refine ⟨own, h1, h2, fun w' K k => ?_⟩
  obtain ⟨own', k1, k2, k3⟩ := k
  refine ⟨h.bl.trans (k2.below h2 h.bl.size), ⟨own', k1, fun g hg => ?_, fun e => ?_⟩, (k2.block b h.z.inside h3).trans h.z⟩
  · rcases k3 g hg with e | e
    · exact h2 g e
    · exact Nat.le_trans h.bl.size e
  · rcases k3 b e with a | a
    · exact h3 a
    · have := h.z.inside; omega
def DoneZ (w0 : World) (q b : Nat) (c : Int) (K : Mo) (e : Ending) (w' : World) : Prop := e = .returned (.int .i64 c) ∧ LvZ w0 w' q K b
theorem LvZ.gd (h : LvZ w0 w q M b) (hG : Gd w0) : Gd w := hG.kept h.bl
theorem zMkdir (h : LvZ w0 w q M b) (hG : Gd w0) (p : By) (hp : p.length ≤ 4000) (hlen : M.since.length + 1 ≤ 100000) (he : doM M (.mkdir p) = (c, K)) : Calls Tryz.prog 21 #[.pointer (some ⟨q, 0, none⟩), kS p] w fun e w' => DoneZ w0 q b c K e w' := by
  obtain ⟨own, h1, _, h2⟩ := h.step
  have := dMkdir_any h1 (h.gd hG) p hp hlen
  rw [he] at this
  exact this.mono fun e w' k => ⟨k.1, h2 _ _ k.2⟩
theorem zSync (h : LvZ w0 w q M b) (he : syncM M = (c, K)) : Calls Tryz.prog 29 #[.pointer (some ⟨q, 0, none⟩)] w fun e w' => DoneZ w0 q b c K e w' := by
  obtain ⟨own, h1, _, h2⟩ := h.step
  have := dSync_any h1
  rw [he] at this
  exact this.mono fun e w' k => ⟨k.1, h2 _ _ k.2⟩
theorem zFuse (h : LvZ w0 w q M b) (n : Int) (hn : n ≤ 9223372036854775807) (he : fuseM M n = (c, K)) : Calls Tryz.prog 36 #[.pointer (some ⟨q, 0, none⟩), .int .i64 n] w fun e w' => DoneZ w0 q b c K e w' := by
  obtain ⟨own, h1, _, h2⟩ := h.step
  have := dFuse_any h1 n hn
  rw [he] at this
  exact this.mono fun e w' k => ⟨k.1, h2 _ _ k.2⟩
theorem pk_one (w : World) (x : UInt8) : Pk (w.alloc (.cells #[.int .u8 (b8 x)] 5)) (some ⟨w.heap.size, 0, none⟩) [x] w.heap.size 0 :=
  ⟨fun _ => rfl, fun i hi => by
    obtain rfl : i = 0 := by simpa using hi
    exact (Has.fresh w 5 #[.int .u8 (b8 x)]).at_ 0, fun _ => (Has.fresh w 5 #[.int .u8 (b8 x)]).inside⟩
theorem zCrash1 (h : LvZ w0 w q M b) (hG : Gd w0) (x : UInt8) (he : crashM M (nats [x]) = K) : Calls Tryz.prog 18 #[.pointer (some ⟨q, 0, none⟩), .slice (some ⟨w.heap.size, 0, none⟩) 1 1] (w.alloc (.cells #[.int .u8 (b8 x)] 5)) fun e w' => DoneZ w0 q b 0 K e w' := by
  subst he
  obtain ⟨own, h1, h3, h2⟩ := h.step
  have hp := hG.pos
  have hb : Below w.heap.size w (w.alloc (.cells #[.int .u8 (b8 x)] 5)) := (Below.refl _ _).alloc (Nat.le_refl _) _
  refine (dCrash_any (h1.on hb) ((h.gd hG).kept hb) (fun g hg => by have := h3 g hg; omega) _ [x] 1 w.heap.size 0 (pk_one w x) (fun _ e => by have := h1.low _ e; omega) (by simp)).mono ?_
  rintro e w' ⟨rfl, k⟩
  exact ⟨rfl, h2 _ _ (DPost.ahead hb k)⟩
theorem eCrash1 {ds : List (Nat × Mo)} (h : Lv w0 w ((q, M) :: ds)) (hG : Gd w0) (x : UInt8) (he : crashM M (nats [x]) = K) : Calls Tryz.prog 18 #[.pointer (some ⟨q, 0, none⟩), .slice (some ⟨w.heap.size, 0, none⟩) 1 1] (w.alloc (.cells #[.int .u8 (b8 x)] 5)) fun e w' => DoneP w0 q ds 0 K e w' :=
  eCrash2 h ((Below.refl _ _).alloc (Nat.le_refl _) _) hG _ [x] 1 1 w.heap.size 0 rfl (pk_one w x) (fun _ => Nat.le_refl _) (by unfold maxLen; simp) he
theorem zOff (h : LvZ w0 w q M b) {v : Bool} (hv : (M.fuse == 0) = v) : Calls Tryz.prog 37 #[.pointer (some ⟨q, 0, none⟩)] w fun e w' => e = .returned (.bool v) ∧ w = w' := by
  obtain ⟨own, h1, _⟩ := h.step
  have := dOff_is h1
  rw [hv] at this
  exact this
theorem zRoom (h : LvZ w0 w q M b) {n : Nat} (hv : M.room = n) : Calls Tryz.prog 35 #[.pointer (some ⟨q, 0, none⟩)] w fun e w' => e = .returned (.int .i64 (n : Int)) ∧ w = w' := by
  obtain ⟨own, h1, _⟩ := h.step
  have := dRoom_any h1
  rw [hv] at this
  exact this
/-- A copy, to be asked whether its power is gone. -/
def OffP (w0 : World) (q b : Nat) (M : Mo) (v : Bool) (e : Ending) (w' : World) : Prop := ∃ r, e = .returned (.pointer (some ⟨r, 0, none⟩)) ∧ LvZ w0 w' q M b ∧ Calls Tryz.prog 37 #[.pointer (some ⟨r, 0, none⟩)] w' fun e w2 => e = .returned (.bool v) ∧ w' = w2
theorem zCopy (h : LvZ w0 w q M b) {v : Bool} (hv : (M.fuse == 0) = v) : Calls Tryz.prog 17 #[.pointer (some ⟨q, 0, none⟩)] w fun e w' => OffP w0 q b M v e w' := by
  obtain ⟨own, h1, _⟩ := h.step
  refine (dCopy_any h1).mono ?_
  rintro e w' ⟨own', r, rfl, k1, k2, k3⟩
  have := dOff_is k1
  rw [hv] at this
  exact ⟨r, rfl, h.on k3, this⟩
end
def ListE (w0 : World) (q : Nat) (M : Mo) (ds : List (Nat × Mo)) (n : Nat) (xs : List By) (e : Ending) (w' : World) : Prop := ∃ cc g, e = .returned (.tuple #[.slice (some ⟨g, 0, none⟩) n cc, .int .i64 0]) ∧ Names w' (some ⟨g, 0, none⟩) g xs ∧ Lv w0 w' ((q, M) :: ds)
theorem eList {w0 w : World} {q : Nat} {M : Mo} {ds : List (Nat × Mo)} (h : Lv w0 w ((q, M) :: ds)) (hG : Gd w0) (s : By) (hs : s.length ≤ 4000) {xs : List By} {n : Nat} (hr : listM M.now s = (xs, 0)) (hn : xs.length = n) (h0 : 0 < n) : Calls Tryz.prog 25 #[.pointer (some ⟨q, 0, none⟩), kS s] w fun e w' => ListE w0 q M ds n xs e w' := by
  obtain ⟨own, h1, _⟩ := h.head
  have := dList_any h1 (h.gd hG) s hs
  rw [hr] at this
  refine this.mono ?_
  rintro e w' ⟨A, c, g, rfl, k1, k2⟩
  have ha := k1.ad (by show 0 < xs.length; omega)
  subst ha
  subst hn
  exact ⟨c, g, rfl, k1, h.on k2⟩
def PathsE (w0 : World) (q : Nat) (M : Mo) (ds : List (Nat × Mo)) (n : Nat) (xs : List By) (wa : World) (e : Ending) (w' : World) : Prop := ∃ cc g, e = .returned (.slice (some ⟨g, 0, none⟩) n cc) ∧ Names w' (some ⟨g, 0, none⟩) g xs ∧ Lv w0 w' ((q, M) :: ds) ∧ Below wa.heap.size wa w'
theorem ePaths {w0 w : World} {q : Nat} {M : Mo} {ds : List (Nat × Mo)} (h : Lv w0 w ((q, M) :: ds)) {xs : List By} {n : Nat} (hr : pathsL M.now = xs) (hn : xs.length = n) (h0 : 0 < n) : Calls Tryz.prog 26 #[.pointer (some ⟨q, 0, none⟩)] w fun e w' => PathsE w0 q M ds n xs w e w' := by
  have := lPaths h
  rw [hr] at this
  refine this.mono ?_
  rintro e w' ⟨A, c, g, rfl, k1, k2⟩
  have ha := k1.ad (by omega)
  subst ha
  subst hn
  exact ⟨c, g, rfl, k1, h.on k2, k2⟩
set_option maxRecDepth 100000 in
set_option maxHeartbeats 32000000 in
theorem known_any (w : World) (hG : Gd w) : Calls Tryz.prog 5 #[] w fun e w' => e = .returned (.bool true) ∧ Below w.heap.size w w' := by
  have HG := hid hG
  have C1 := hid (made_any w hG)
  have CR : Hid (∀ W, Calls Tryz.prog 31 #[.string ⟨#[120]⟩, .int .i64 1000] W fun e w' => e = .returned (kS r1000) ∧ Below W.heap.size W w') := fun W => rep_any 120 1000 (by omega) (by omega) W
  clear hG
  go_enter Tryz.func5, Tryz.ntmps5
  go_wp2_with fail
  refine C1.out.mono ?_; rintro e1 w1 ⟨p, rfl, hl1⟩
  have L0 : Hid (Lv w w1 [(p, ka0)]) := hl1
  clear hl1 C1
  go_wp2_with fail
  refine (awake_any _ (L0.out.gd HG.out)).mono ?_; rintro e2 w2 ⟨rfl, hb2⟩
  have LA := hid (L0.out.on hb2)
  clear hb2 L0
  go_wp2_with fail
  refine (eMkdir LA.out HG.out [97, 47, 98, 47, 99] (by decide) (by decide +kernel) kaf0).mono ?_; rintro eL1 wL1 ⟨rfl, hlL1⟩
  have L1 := hid hlL1
  clear hlL1
  go_wp2_with fail
  refine (eWrite L1.out HG.out [97] [] 1 (by decide) (by decide +kernel) (by decide +kernel) kaf1).mono ?_; rintro eL2 wL2 ⟨rfl, hlL2⟩
  have L2 := hid hlL2
  clear hlL2
  go_wp2_with fail
  refine (eAppend L2.out HG.out [97] [] (by decide) (by decide) (by decide +kernel) kaf2).mono ?_; rintro eL3 wL3 ⟨rfl, hlL3⟩
  have L3 := hid hlL3
  clear hlL3
  go_wp2_with fail
  refine (eRename L3.out HG.out [97] [97, 47, 99] (by decide) (by decide) (by decide +kernel) kaf3).mono ?_; rintro eL4 wL4 ⟨rfl, hlL4⟩
  have L4 := hid hlL4
  clear hlL4
  go_wp2_with fail
  refine (eRename L4.out HG.out [97] [100] (by decide) (by decide) (by decide +kernel) kaf4).mono ?_; rintro eL5 wL5 ⟨rfl, hlL5⟩
  have L5 := hid hlL5
  clear hlL5
  go_wp2_with fail
  refine (eList L5.out HG.out [] (by decide) ka_list (n := 1) rfl (by decide)).mono ?_; rintro el wl ⟨cl, gl, rfl, hnl, hll⟩
  have NL := hid hnl
  have LL := hid hll
  clear hnl hll
  go_wp2_with fail
  refine (ePaths LL.out ka_paths (n := 2) rfl (by decide)).mono ?_; rintro ep wp ⟨cp, gp, rfl, hnp, hlp, hbp⟩
  have NP := hid hnp
  have LP := hid hlp
  have NL2 := hid (NL.out.on hbp)
  clear hnp hlp hbp NL
  have x0 : wp.cell? ⟨gl, 0, none⟩ = some (.string ⟨#[100]⟩) := NL2.out.cell 0 (by decide)
  have x1 : wp.cell? ⟨gp, 0, none⟩ = some (.string ⟨#[100]⟩) := NP.out.cell 0 (by decide)
  have x2 : wp.cell? ⟨gp, 1, none⟩ = some (.string ⟨#[100, 47, 98]⟩) := NP.out.cell 1 (by decide)
  go_wp2_with fail
  refine (eUsed LP.out ka_used).mono ?_; rintro eL6 wL6 ⟨rfl, rfl⟩
  go_wp2_with fail
  refine (ePending LP.out ka_pend).mono ?_; rintro eL7 wL7 ⟨rfl, rfl⟩
  clear x0 x1 x2
  go_wp2_with fail
  refine (eSync LP.out ka_sync).mono ?_; rintro eL8 wL8 ⟨rfl, hlL8⟩
  have L8 := hid hlL8
  clear hlL8
  go_wp2_with fail
  refine (eWrite L8.out HG.out [100, 47, 98] [108, 111, 110, 103] 2 (by decide) (by decide +kernel) (by decide +kernel) kbf0).mono ?_; rintro eL9 wL9 ⟨rfl, hlL9⟩
  have L9 := hid hlL9
  clear hlL9
  go_wp2_with fail
  refine (eCrash1 L9.out HG.out 4 kb_crash).mono ?_; rintro eL10 wL10 ⟨rfl, hlL10⟩
  have L10 := hid hlL10
  clear hlL10
  go_wp2_with fail
  refine (lIs L10.out HG.out [100, 47, 98] [108, 111] 2 (by decide) kc_read).mono ?_; rintro eL11 wL11 ⟨rfl, hlL11⟩
  have L11 := hid hlL11
  clear hlL11
  go_wp2_with fail
  refine (ePending L11.out kc_pend).mono ?_; rintro eL12 wL12 ⟨rfl, rfl⟩
  go_wp2_with fail
  refine (CR.out _).mono ?_; rintro er wr ⟨rfl, hbr⟩
  have LR := hid (L11.out.on hbr)
  clear hbr
  go_wp2_with fail
  refine (eWrite LR.out HG.out [101] r1000 1 (by decide) (by decide +kernel) (by decide +kernel) kcf0).mono ?_; rintro eL13 wL13 ⟨rfl, hlL13⟩
  have L13 := hid hlL13
  clear hlL13
  go_wp2_with fail
  refine (eWrite L13.out HG.out [] [] 1 (by decide) (by decide +kernel) (by decide +kernel) kcf1).mono ?_; rintro eL14 wL14 ⟨rfl, hlL14⟩
  have L14 := hid hlL14
  clear hlL14
  go_wp2_with fail
  refine (eWrite L14.out HG.out [101] [] (-1) (by decide) (by decide +kernel) (by decide +kernel) kcf2).mono ?_; rintro eL15 wL15 ⟨rfl, hlL15⟩
  have L15 := hid hlL15
  clear hlL15
  go_wp2_with fail
  refine (eLink L15.out HG.out [101] [] 1 (by decide) (by decide) (by decide +kernel) kcf3).mono ?_; rintro eL16 wL16 ⟨rfl, hlL16⟩
  have L16 := hid hlL16
  clear hlL16
  go_wp2_with fail
  refine (eRemove L16.out HG.out [101] (by decide) (by decide +kernel) kcf4).mono ?_; rintro eL17 wL17 ⟨rfl, hlL17⟩
  have L17 := hid hlL17
  clear hlL17
  go_wp2_with fail
  refine (eLink L17.out HG.out [101] [100, 47, 98] 3 (by decide) (by decide) (by decide +kernel) kcf5).mono ?_; rintro eL18 wL18 ⟨rfl, hlL18⟩
  have L18 := hid hlL18
  clear hlL18
  go_wp2_with fail
  refine (eWrite L18.out HG.out [101] [] 1 (by decide) (by decide +kernel) (by decide +kernel) kcf6).mono ?_; rintro eL19 wL19 ⟨rfl, hlL19⟩
  have L19 := hid hlL19
  clear hlL19
  go_wp2_with fail
  refine (eAppend L19.out HG.out [101] [] (by decide) (by decide) (by decide +kernel) kcf7).mono ?_; rintro eL20 wL20 ⟨rfl, hlL20⟩
  have L20 := hid hlL20
  clear hlL20
  go_wp2_with fail
  refine (eRename L20.out HG.out [100] [101] (by decide) (by decide) (by decide +kernel) kcf8).mono ?_; rintro eL21 wL21 ⟨rfl, hlL21⟩
  have L21 := hid hlL21
  clear hlL21
  go_wp2_with fail
  refine (eRename L21.out HG.out [100, 47, 98] [101] (by decide) (by decide) (by decide +kernel) kcf9).mono ?_; rintro eL22 wL22 ⟨rfl, hlL22⟩
  have L22 := hid hlL22
  clear hlL22
  go_wp2_with fail
  refine (lIs L22.out HG.out [101] [108, 111] 2 (by decide) kc_read2).mono ?_; rintro eL23 wL23 ⟨rfl, hlL23⟩
  have L23 := hid hlL23
  clear hlL23
  have Z0 := hid (LvZ.make L23.out)
  have ZI := hid L23.out.gd
  obtain ⟨b, HB⟩ : ∃ b, Hid (wL23.heap.size = b) := ⟨_, rfl⟩
  rw [HB.out] at Z0
  go_wp2_with fail
  refine (read_nil _ _).mono ?_; rintro e41 w41 ⟨rfl, hb41⟩
  have Z1 := hid ((Z0.out.on hb41).on ((Below.refl _ _).alloc (Nat.le_refl _) (.cells (ndA 0 [] [] 0) 64)))
  clear hb41
  rw [HB.out]
  go_wp2_with fail
  refine (list_zero _ b Z1.out.z _).mono ?_; rintro e42 w42 ⟨rfl, rfl⟩
  go_wp2_with fail
  refine (new_bad _ 1023 (.inl (by decide))).mono ?_; rintro e43 w43 ⟨rfl, rfl⟩
  go_wp2_with fail
  refine (write_nil _ [97] [] 1 (by decide) (by decide)).mono ?_; rintro e44 w44 ⟨rfl, hb44⟩
  have Z2 := hid (Z1.out.on hb44)
  clear hb44
  go_wp2_with fail
  refine (mkdir_zero _ b Z2.out.z [97] (by decide)).mono ?_; rintro e45 w45 ⟨rfl, hb45⟩
  have Z3 := hid (Z2.out.on hb45)
  clear hb45
  go_wp2_with fail
  refine (sync_nil _).mono ?_; rintro e46 w46 ⟨rfl, rfl⟩
  go_wp2_with fail
  refine (crash_zero _ b Z3.out.z).mono ?_; rintro e47 w47 ⟨rfl, rfl⟩
  go_wp2_with fail
  refine (copy_nil _).mono ?_; rintro e48 w48 ⟨rfl, rfl⟩
  go_wp2_with fail
  refine (copy_zero _ b Z3.out.z).mono ?_; rintro e49 w49 ⟨rfl, rfl⟩
  go_wp2_with fail
  refine (used_nil _).mono ?_; rintro e50 w50 ⟨rfl, rfl⟩
  go_wp2_with fail
  refine (room_nil _).mono ?_; rintro e51 w51 ⟨rfl, rfl⟩
  go_wp2_with fail
  refine (pending_nil _).mono ?_; rintro e52 w52 ⟨rfl, rfl⟩
  go_wp2_with fail
  refine (paths_nil _).mono ?_; rintro e53 w53 ⟨rfl, rfl⟩
  go_wp2_with fail
  refine (zFuse Z3.out (-1) (by decide) kc_fuse1).mono ?_; rintro e54 w54 ⟨rfl, hl54⟩
  have Z4 := hid hl54
  clear hl54
  go_wp2_with fail
  refine (zFuse Z4.out 1 (by decide) kc_fuse).mono ?_; rintro e55 w55 ⟨rfl, hl55⟩
  have Z5 := hid hl55
  clear hl55
  go_wp2_with fail
  refine (zOff Z5.out kd_off0).mono ?_; rintro e56 w56 ⟨rfl, rfl⟩
  go_wp2_with fail
  refine (zMkdir Z5.out HG.out [103] (by decide) (by decide +kernel) kdf0).mono ?_; rintro e57 w57 ⟨rfl, hl57⟩
  have Z6 := hid hl57
  clear hl57
  go_wp2_with fail
  refine (zOff Z6.out kd_off1).mono ?_; rintro e58 w58 ⟨rfl, rfl⟩
  go_wp2_with fail
  refine (zMkdir Z6.out HG.out [104] (by decide) (by decide +kernel) kd_mk1).mono ?_; rintro e59 w59 ⟨rfl, hl59⟩
  have Z7 := hid hl59
  clear hl59
  go_wp2_with fail
  refine (zMkdir Z7.out HG.out [47] (by decide) (by decide +kernel) kd_mk2).mono ?_; rintro e60 w60 ⟨rfl, hl60⟩
  have Z8 := hid hl60
  clear hl60
  go_wp2_with fail
  refine (zSync Z8.out kd_sync).mono ?_; rintro e61 w61 ⟨rfl, hl61⟩
  have Z9 := hid hl61
  clear hl61
  go_wp2_with fail
  refine (zFuse Z9.out 5 (by decide) kd_fuse).mono ?_; rintro e62 w62 ⟨rfl, hl62⟩
  have Za := hid hl62
  clear hl62
  go_wp2_with fail
  refine (zCopy Za.out kd_off1).mono ?_; rintro e63 w63 ⟨r, rfl, hl63, hc63⟩
  have Zb := hid hl63
  have CC := hid hc63
  clear hl63 hc63
  go_wp2_with fail
  refine (CC.out).mono ?_; rintro e64 w64 ⟨rfl, rfl⟩
  go_wp2_with fail
  refine (zCrash1 Zb.out HG.out 1 kd_crash).mono ?_; rintro e65 w65 ⟨rfl, hl65⟩
  have Zc := hid hl65
  clear hl65
  go_wp2_with fail
  refine (zOff Zc.out ke_off).mono ?_; rintro e66 w66 ⟨rfl, rfl⟩
  go_wp2_with fail
  refine (zMkdir Zc.out HG.out [104] (by decide) (by decide +kernel) kef0).mono ?_; rintro e67 w67 ⟨rfl, hl67⟩
  have Zd := hid hl67
  clear hl67
  go_wp2_with fail
  refine (zFuse Zd.out 0 (by decide) ke_fuse).mono ?_; rintro e68 w68 ⟨rfl, hl68⟩
  have Ze := hid hl68
  clear hl68
  go_wp2_with fail
  refine (zOff Ze.out kf_off).mono ?_; rintro e69 w69 ⟨rfl, rfl⟩
  go_wp2_with fail
  refine (limits_any _ (Ze.out.gd HG.out)).mono ?_; rintro e70 w70 ⟨rfl, hb70⟩
  have Zf := hid (Ze.out.on hb70)
  clear hb70
  go_wp2_with fail
  refine (zRoom Zf.out kf_room).mono ?_; rintro e71 w71 ⟨rfl, rfl⟩
  go_wp2_with fail
  refine (fuse_nil _).mono ?_; rintro e72 w72 ⟨rfl, rfl⟩
  go_wp2_with fail
  refine (off_zero _ b Zf.out.z).mono ?_; rintro e73 w73 ⟨rfl, rfl⟩
  go_wp2
  go_ret
  exact ⟨rfl, Zf.out.bl⟩
end Go.Proofs.YtlbeemlnbpchgaaGreat
