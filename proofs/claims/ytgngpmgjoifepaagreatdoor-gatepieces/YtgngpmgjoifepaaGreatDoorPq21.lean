/- The contract of gate.note: a record in a gateway of one's own. -/
import Derived.Test.YtgngpmgjoifepaaGreatDoorPq20
import Derived.Deep.DeepCutAuto
namespace Go.Proofs.YtgngpmgjoifepaaGreatDoor
open Go.RowKit
attribute [local go_sem ↓] Go.wp_at_zero Go.wp_at_succ

theorem dnG_7 {g : Gt} {r : List Int × Int × Int} (h : r.2.2 = 7) : dnG g r = (⟨r.1, r.2.1, false, g.t, falses g.vo, falses g.di⟩, false) := by unfold dnG; rw [if_pos h]
theorem dnG_0 {g : Gt} {r : List Int × Int × Int} (h : r.2.2 = 0) : dnG g r = (⟨r.1, r.2.1, g.up, g.t, g.vo, g.di⟩, true) := by unfold dnG; rw [if_neg (by rw [h]; decide), if_pos h]
theorem dnG_e {g : Gt} {r : List Int × Int × Int} (h7 : r.2.2 ≠ 7) (h0 : r.2.2 ≠ 0) : dnG g r = (g, false) := by unfold dnG; rw [if_neg h7, if_neg h0]

theorem fl_set2 {W : World} {b : Nat} {x y x' y' : Value} {t : TypeId} (h : W.heap[b]? = some (.cells #[x, y] t (0, 0))) : ((W.setCell ⟨b, 0, none⟩ x').setCell ⟨b, 1, none⟩ y').heap[b]? = some (.cells #[x', y'] t (0, 0)) := by
  simp only [World.setCell, Array.getElem?_modify]
  simp [h]
theorem appS_len (ws : List Int) (f : Int) (r : List Int) (keep : List (List Int)) : (appS ws f r keep).1.length ≤ ws.length := by
  unfold appS
  split
  · simp
  · exact turnS_le _ _ _
theorem GOwn.below {w w' : World} {F : Nat} {m : GA} {g : Gt} {bv bd : Nat} (h : GOwn w F m g bv bd) (hb : Below w.heap.size w w') : GOwn w' F m g bv bd :=
  ⟨h.ws.below hb, h.ks.below hb, h.av, h.ad, h.vo.below hb, h.di.below hb, h.nv, h.nd, h.fv, h.fd, h.ne, h.wv, h.wd, h.kv, h.kd, h.fa, h.fk⟩
theorem GBox.below {w w' : World} {F B : Nat} {m : GA} {g : Gt} {bv bd : Nat} (h : GBox w F B m g bv bd) (hb : Below w.heap.size w w') : GBox w' F B m g bv bd :=
  ⟨blk_below h.box hb, h.own.below hb, h.fB, h.nv, h.nd, h.oa, h.ok⟩
theorem gt_set2 {W : World} {B : Nat} {g : Gt} {m : GA} {ws : List Int} {f : Int} {a : Option Addr} {n c : Nat} (h : W.heap[B]? = some (gtO g m)) :
    ((W.setCell ⟨B, 0, none⟩ (.slice a n c)).setCell ⟨B, 1, none⟩ (.int .i64 f)).heap[B]? = some (gtO ⟨ws, f, g.up, g.t, g.vo, g.di⟩ ⟨a, n, c, m.ak, m.nk, m.ck, m.av, m.nv, m.cv, m.ad, m.nd, m.cd⟩) := by
  unfold gtO at *
  simp only [World.setCell, Array.getElem?_modify]
  simp [h]
theorem gt_set3 {W : World} {B : Nat} {g : Gt} {m : GA} {ws : List Int} {f : Int} {a : Option Addr} {n c : Nat} {up : Bool} (h : W.heap[B]? = some (gtO g m)) :
    (((W.setCell ⟨B, 0, none⟩ (.slice a n c)).setCell ⟨B, 1, none⟩ (.int .i64 f)).setCell ⟨B, 2, none⟩ (.bool up)).heap[B]? = some (gtO ⟨ws, f, up, g.t, g.vo, g.di⟩ ⟨a, n, c, m.ak, m.nk, m.ck, m.av, m.nv, m.cv, m.ad, m.nd, m.cd⟩) := by
  unfold gtO at *
  simp only [World.setCell, Array.getElem?_modify]
  simp [h]
/-- Another flash. -/
theorem GBox.flash {w wc W' : World} {F B : Nat} {m : GA} {g : Gt} {bv bd : Nat} {ws : List Int} {f : Int} {up : Bool} {a : Option Addr} {n c : Nat} (h : GBox w F B m g bv bd) (hb : Below w.heap.size w wc) (hi : IsInts wc a ws) (hn : ws.length = n) (hc : n ≤ c) (hm : n ≤ maxLen) (hf : FreshA w.heap.size a)
    (hg : wc.grownBy W' (some B)) (hbox : W'.heap[B]? = some (gtO ⟨ws, f, up, g.t, g.vo, g.di⟩ ⟨a, n, c, m.ak, m.nk, m.ck, m.av, m.nv, m.cv, m.ad, m.nd, m.cd⟩)) : GBox W' F B ⟨a, n, c, m.ak, m.nk, m.ck, m.av, m.nv, m.cv, m.ad, m.nd, m.cd⟩ ⟨ws, f, up, g.t, g.vo, g.di⟩ bv bd := by
  have o := h.own
  have hB := blk_lt h.box
  exact ⟨hbox, ⟨⟨ints_turns hi hg (off_fresh hf hB), hn, hc, hm⟩, (o.ks.below hb).turns hg h.ok, o.av, o.ad, (o.vo.below hb).turns hg (Ne.symm h.nv), (o.di.below hb).turns hg (Ne.symm h.nd), o.nv, o.nd, o.fv, o.fd, o.ne, off_fresh hf o.vo.lt, off_fresh hf o.di.lt, o.kv, o.kd, fun ad e => Nat.le_trans h.fB (Nat.le_trans (Nat.le_of_lt hB) (hf ad e)), o.fk⟩, h.fB, h.nv, h.nd, off_fresh hf hB, h.ok⟩
/-- What the regions read. -/
theorem noteS {w W W' : World} {B : Nat} {m : GA} {g : Gt} {s : Gs} (hB : W.heap[B]? = some (gtO g m)) (hX : W.heap[w.heap.size]? = some (.cells #[.int .i64 s.n, .int .i64 s.v, .bool s.co, .bool s.ab, .bool s.en] 82 (0, 0))) (h : Below W.heap.size W W') :
    W'.cell? ⟨B, 0, none⟩ = some (.slice m.a m.n m.c) ∧ W'.cell? ⟨B, 1, none⟩ = some (.int .i64 g.fu) ∧ W'.cell? ⟨w.heap.size, 0, none⟩ = some (.int .i64 s.n) ∧ W'.cell? ⟨w.heap.size, 1, none⟩ = some (.int .i64 s.v) ∧ W'.cell? ⟨w.heap.size, 2, none⟩ = some (.bool s.co) ∧ W'.cell? ⟨w.heap.size, 3, none⟩ = some (.bool s.ab) ∧ W'.cell? ⟨w.heap.size, 4, none⟩ = some (.bool s.en) ∧ Below W.heap.size W W' := by
  have b := blk_below hB h
  have x := blk_below hX h
  unfold gtO at b
  exact ⟨blk_cell b 0 _ rfl, blk_cell b 1 _ rfl, blk_cell x 0 _ rfl, blk_cell x 1 _ rfl, blk_cell x 2 _ rfl, blk_cell x 3 _ rfl, blk_cell x 4 _ rfl, h⟩
/-- What the appended flash is, behind region 1. -/
def NoteR (W : World) (R : List Int × Int × Int) (v7 v8 : Value) (wc : World) : Prop :=
  ∃ G a5 n5 c5, v7 = .pointer (some ⟨G, 0, none⟩) ∧ v8 = .int .i64 R.2.2 ∧ wc.heap[G]? = some (.cells #[.slice a5 n5 c5, .int .i64 R.2.1] 27 (0, 0)) ∧ IsInts wc a5 R.1 ∧ R.1.length = n5 ∧ n5 ≤ c5 ∧ FreshA W.heap.size a5 ∧ Below W.heap.size W wc ∧ W.heap.size ≤ G

set_option maxRecDepth 100000 in
set_option maxHeartbeats 6400000 in
theorem note_any (F B : Nat) (m : GA) (g : Gt) (bv bd : Nat) (s : Gs) (ar : Option Addr) (nr cr : Nat) (r : List Int) (w : World) (h : GBox w F B m g bv bd) (hr : BI w ar nr r) :
    Calls Tryz.prog 85 #[.pointer (some ⟨B, 0, none⟩), gsv s, .slice ar nr cr] w fun e w' => e = .returned (.bool (noteG g s r).2) ∧ (∃ m', GBox w' F B m' (noteG g s r).1 bv bd) ∧ G3 w w' B bv bd := by
  have hw : Below w.heap.size w (w.alloc (.cells #[.int .i64 s.n, .int .i64 s.v, .bool s.co, .bool s.ab, .bool s.en] 82)) := (Below.refl _ _).alloc (Nat.le_refl _) _
  have bX := hide (heap_alloc_last w (.cells #[.int .i64 s.n, .int .i64 s.v, .bool s.co, .bool s.ab, .bool s.en] 82))
  have bB := hide (blk_below h.box hw)
  have HK := hide (fun W => kept_any s W)
  unfold gsv at HK
  have HA := hide (fun ak nk ck (W : World) (hW : Below w.heap.size w W) (hk : IsRecs W ak (kepG s)) (hnk : (kepG s).length = nk) (hmk : nk ≤ maxLen) => append_any m.a m.n m.c g.ws g.fu ar nr cr r ak nk ck (kepG s) W (h.own.ws.below hW).at_ h.own.ws.len h.own.ws.cap h.own.ws.max (hr.below hW).at_ hr.len hr.max hk hnk hmk)
  have HP := hide h
  have hBw := blk_lt h.box
  obtain ⟨R, hR⟩ : ∃ R, R = appS g.ws g.fu r (kepG s) := ⟨_, rfl⟩
  rw [← hR] at HA
  have HN : Hid (noteG g s r = dnG g R) := by rw [hR]; exact hide rfl
  have hsize : w.heap.size = w.heap.size := rfl
  have HLe : Hid (R.1.length ≤ g.ws.length) := by rw [hR]; exact appS_len _ _ _ _
  clear h hr hR hsize
  unfold gsv
  go_enter Tryz.func85, Tryz.ntmps85
  go_upto_region 1 with fail
  have hXs : w.heap.size < (w.alloc (.cells #[.int .i64 s.n, .int .i64 s.v, .bool s.co, .bool s.ab, .bool s.en] 82)).heap.size := by simp
  generalize (w.alloc (.cells #[.int .i64 s.n, .int .i64 s.v, .bool s.co, .bool s.ab, .bool s.en] 82)) = W at *
  go_cut [7, 8] (fun v7 v8 wc => NoteR W R v7 v8 wc)
  case first =>
    refine wp_region_held_drew (S := fun W' => W'.cell? ⟨B, 0, none⟩ = some (.slice m.a m.n m.c) ∧ W'.cell? ⟨B, 1, none⟩ = some (.int .i64 g.fu) ∧ W'.cell? ⟨w.heap.size, 0, none⟩ = some (.int .i64 s.n) ∧ W'.cell? ⟨w.heap.size, 1, none⟩ = some (.int .i64 s.v) ∧ W'.cell? ⟨w.heap.size, 2, none⟩ = some (.bool s.co) ∧ W'.cell? ⟨w.heap.size, 3, none⟩ = some (.bool s.ab) ∧ W'.cell? ⟨w.heap.size, 4, none⟩ = some (.bool s.en) ∧ Below W.heap.size W W') (by kernel_rfl) (noteS bB.out bX.out (Below.refl _ _).drew) ?_
    intro hHeld
    refine wpAnyH_take (i := 0) (v := ?_) (by simp only [List.getElem?_toArray, List.getElem?_cons_zero]; rfl) (by kernel_rfl) (by kernel_rfl) (by kernel_rfl) (by exact fun _ _ _ h => h) (Or.inl ⟨by rfl, ?_⟩) (by assumption) ?_
    rotate_left
    · intro w hSw
      try dsimp only at hSw
      go_simp
      try with_reducible rfl
    try simp only [Act.put, List.setIfInBounds_toArray, List.set_cons_zero, List.set_cons_succ]
    refine wpAnyH_take (i := 1) (v := ?_) (by simp only [List.getElem?_toArray, List.getElem?_cons_zero, List.getElem?_cons_succ]; rfl) (by kernel_rfl) (by kernel_rfl) (by kernel_rfl) (by exact fun _ _ _ h => h) (Or.inl ⟨by rfl, ?_⟩) (by assumption) ?_
    rotate_left
    · intro w hSw
      try dsimp only at hSw
      go_simp
      try with_reducible rfl
    try simp only [Act.put, List.setIfInBounds_toArray, List.set_cons_zero, List.set_cons_succ]
    refine wpAnyH_take (i := 2) (v := ?_) (by simp only [List.getElem?_toArray, List.getElem?_cons_zero, List.getElem?_cons_succ]; rfl) (by kernel_rfl) (by kernel_rfl) (by kernel_rfl) (by exact fun _ _ _ h => h) (Or.inl ⟨by rfl, ?_⟩) (by assumption) ?_
    rotate_left
    · intro w hSw
      try dsimp only at hSw
      go_simp
      try with_reducible rfl
    try simp only [Act.put, List.setIfInBounds_toArray, List.set_cons_zero, List.set_cons_succ]
    refine wpAnyH_take (i := 3) (v := ?_) (by simp only [List.getElem?_toArray, List.getElem?_cons_zero, List.getElem?_cons_succ]; rfl) (by kernel_rfl) (by kernel_rfl) (by kernel_rfl) (by exact fun _ _ _ h => h) (Or.inl ⟨by rfl, ?_⟩) (by assumption) ?_
    rotate_left
    · intro w hSw
      try dsimp only at hSw
      go_simp
      try with_reducible rfl
    try simp only [Act.put, List.setIfInBounds_toArray, List.set_cons_zero, List.set_cons_succ]
    refine wpAnyH_take (i := 4) (v := ?_) (by simp only [List.getElem?_toArray, List.getElem?_cons_zero, List.getElem?_cons_succ]; rfl) (by kernel_rfl) (by kernel_rfl) (by kernel_rfl) (by exact fun _ _ _ h => h) (Or.inl ⟨by rfl, ?_⟩) (by assumption) ?_
    rotate_left
    · intro w hSw
      try dsimp only at hSw
      go_simp
      try with_reducible rfl
    try simp only [Act.put, List.setIfInBounds_toArray, List.set_cons_zero, List.set_cons_succ]
    refine wpAnyH_take (i := 5) (v := ?_) (by simp only [List.getElem?_toArray, List.getElem?_cons_zero, List.getElem?_cons_succ]; rfl) (by kernel_rfl) (by kernel_rfl) (by kernel_rfl) (by exact fun _ _ _ h => h) (Or.inl ⟨by rfl, ?_⟩) (by assumption) ?_
    rotate_left
    · intro w hSw
      try dsimp only at hSw
      go_simp
      try with_reducible rfl
    try simp only [Act.put, List.setIfInBounds_toArray, List.set_cons_zero, List.set_cons_succ]
    refine wpAnyH_ready (rs := [6, 11]) (by kernel_rfl) (by simp) ?_
    refine AllReadyH.cons (by simp only [List.getElem?_toArray, List.getElem?_cons_zero, List.getElem?_cons_succ]; rfl) (fun K hK => ?_) (AllReadyH.cons (by simp only [List.getElem?_toArray, List.getElem?_cons_zero, List.getElem?_cons_succ]; rfl) (fun K hK => ?_) AllReadyH.nil)
    · go_simp
      refine (unhide HK _).mono ?_
      rintro e wk ⟨⟨ak, ck, rfl, hk1, hk2, hrk⟩, hbk⟩
      have hkk := ((Below.refl W.heap.size W).drew).trans (hbk.mono ((Below.refl W.heap.size W).drew).size)
      go_wp2_with fail
      refine hK.out _ _ (noteS bB.out bX.out hkk) (fun hHeld => ?_)
      clear hK K
      try simp only [Act.put, List.setIfInBounds_toArray, List.set_cons_zero, List.set_cons_succ]
      refine wpAnyH_ready (rs := [7, 11]) (by kernel_rfl) (by simp) ?_
      refine AllReadyH.cons (by simp only [List.getElem?_toArray, List.getElem?_cons_zero, List.getElem?_cons_succ]; rfl) (fun K hK => ?_) (AllReadyH.cons (by simp only [List.getElem?_toArray, List.getElem?_cons_zero, List.getElem?_cons_succ]; rfl) (fun K hK => ?_) AllReadyH.nil)
      · go_simp
        refine (unhide HA ak _ ck _ (hw.trans ((hkk).mono hw.size)) hrk rfl (Nat.le_trans hk1 hk2)).mono ?_
        rintro e w5 ⟨⟨a5, n5, c5, rfl, hi5, hn5, hc5, hf5⟩, hb5⟩
        have hk5 := (hkk).trans (hb5.mono (hkk).size)
        go_wp2_with fail
        refine hK.out _ _ (noteS bB.out bX.out hk5) (fun hHeld => ?_)
        clear hK K
        try simp only [Act.put, List.setIfInBounds_toArray, List.set_cons_zero, List.set_cons_succ]
        refine wpAnyH_take (i := 8) (v := ?_) (by simp only [List.getElem?_toArray, List.getElem?_cons_zero, List.getElem?_cons_succ]; rfl) (by kernel_rfl) (by kernel_rfl) (by kernel_rfl) (by exact fun _ _ _ h => h) (Or.inl ⟨by rfl, ?_⟩) (by assumption) ?_
        rotate_left
        · intro w hSw
          try dsimp only at hSw
          go_simp
          try with_reducible rfl
        try simp only [Act.put, List.setIfInBounds_toArray, List.set_cons_zero, List.set_cons_succ]
        refine wpAnyH_take (i := 9) (v := ?_) (by simp only [List.getElem?_toArray, List.getElem?_cons_zero, List.getElem?_cons_succ]; rfl) (by kernel_rfl) (by kernel_rfl) (by kernel_rfl) (by exact fun _ _ _ h => h) (Or.inl ⟨by rfl, ?_⟩) (by assumption) ?_
        rotate_left
        · intro w hSw
          try dsimp only at hSw
          go_simp
          try with_reducible rfl
        try simp only [Act.put, List.setIfInBounds_toArray, List.set_cons_zero, List.set_cons_succ]
        refine wpAnyH_take (i := 10) (v := ?_) (by simp only [List.getElem?_toArray, List.getElem?_cons_zero, List.getElem?_cons_succ]; rfl) (by kernel_rfl) (by kernel_rfl) (by kernel_rfl) (by exact fun _ _ _ h => h) (Or.inl ⟨by rfl, ?_⟩) (by assumption) ?_
        rotate_left
        · intro w hSw
          try dsimp only at hSw
          go_simp
          try with_reducible rfl
        try simp only [Act.put, List.setIfInBounds_toArray, List.set_cons_zero, List.set_cons_succ]
        refine wpAnyH_ready (rs := [11]) (by kernel_rfl) (by simp) ?_
        refine AllReadyH.cons (by simp only [List.getElem?_toArray, List.getElem?_cons_zero, List.getElem?_cons_succ]; rfl) (fun K hK => ?_) AllReadyH.nil
        go_simp
        refine hK.out _ _ (noteS bB.out bX.out (below_new hk5 _)) (fun hHeld => ?_)
        clear hK K
        try simp only [Act.put, List.setIfInBounds_toArray, List.set_cons_zero, List.set_cons_succ]
        refine wpAnyH_ready (rs := [12]) (by kernel_rfl) (by simp) ?_
        refine AllReadyH.cons (by simp only [List.getElem?_toArray, List.getElem?_cons_zero, List.getElem?_cons_succ]; rfl) (fun K hK => ?_) AllReadyH.nil
        go_simp
        refine hK.out _ _ (noteS bB.out bX.out (below_new hk5 _)) (fun hHeld => ?_)
        clear hK K
        try simp only [Act.put, List.setIfInBounds_toArray, List.set_cons_zero, List.set_cons_succ]
        refine wpAnyH_take (i := 13) (v := ?_) (by simp only [List.getElem?_toArray, List.getElem?_cons_zero, List.getElem?_cons_succ]; rfl) (by kernel_rfl) (by kernel_rfl) (by kernel_rfl) (by exact fun _ _ _ h => h) (Or.inl ⟨by rfl, ?_⟩) (by assumption) ?_
        rotate_left
        · intro w hSw
          try dsimp only at hSw
          go_simp
          try with_reducible rfl
        try simp only [Act.put, List.setIfInBounds_toArray, List.set_cons_zero, List.set_cons_succ]
        refine wpAnyH_done (by kernel_rfl) ?_ _
        go_wp2_with fail
        go_meet
        case rel => exact ⟨w5.heap.size, a5, n5, c5, rfl, rfl, heap_alloc_last w5 (.cells #[.slice a5 n5 c5, .int .i64 R.2.1] 27), hi5.alloc _, hn5, hc5, fun ad e => Nat.le_trans hkk.size (hf5 ad e), below_new hk5 _, hk5.size⟩
      · go_simp
        refine hK.out _ _ (noteS bB.out bX.out (below_new hkk _)) (fun hHeld => ?_)
        clear hK K
        try simp only [Act.put, List.setIfInBounds_toArray, List.set_cons_zero, List.set_cons_succ]
        refine wpAnyH_ready (rs := [7]) (by kernel_rfl) (by simp) ?_
        refine AllReadyH.cons (by simp only [List.getElem?_toArray, List.getElem?_cons_zero, List.getElem?_cons_succ]; rfl) (fun K hK => ?_) AllReadyH.nil
        go_simp
        have hcur := below_new hkk (.cells #[.slice none 0 0, .int .i64 0] 27)
        refine (unhide HA ak _ ck _ (hw.trans ((hcur).mono hw.size)) (hrk.below (below_new (Below.refl _ _) _)) rfl (Nat.le_trans hk1 hk2)).mono ?_
        rintro e w5 ⟨⟨a5, n5, c5, rfl, hi5, hn5, hc5, hf5⟩, hb5⟩
        have hk5 := (hcur).trans (hb5.mono (hcur).size)
        go_wp2_with fail
        refine hK.out _ _ (noteS bB.out bX.out hk5) (fun hHeld => ?_)
        clear hK K
        try simp only [Act.put, List.setIfInBounds_toArray, List.set_cons_zero, List.set_cons_succ]
        have bG : Hid (w5.heap[wk.heap.size]? = some (.cells #[.slice none 0 0, .int .i64 0] 27 (0, 0))) := blk_below (heap_alloc_last wk _) hb5
        refine wpAnyH_take (i := 8) (v := ?_) (by simp only [List.getElem?_toArray, List.getElem?_cons_zero, List.getElem?_cons_succ]; rfl) (by kernel_rfl) (by kernel_rfl) (by kernel_rfl) (by exact fun _ _ _ h => h) (Or.inl ⟨by rfl, ?_⟩) (by assumption) ?_
        rotate_left
        · intro w hSw
          try dsimp only at hSw
          go_simp
          try with_reducible rfl
        try simp only [Act.put, List.setIfInBounds_toArray, List.set_cons_zero, List.set_cons_succ]
        refine wpAnyH_take (i := 9) (v := ?_) (by simp only [List.getElem?_toArray, List.getElem?_cons_zero, List.getElem?_cons_succ]; rfl) (by kernel_rfl) (by kernel_rfl) (by kernel_rfl) (by exact fun _ _ _ h => h) (Or.inl ⟨by rfl, ?_⟩) (by assumption) ?_
        rotate_left
        · intro w hSw
          try dsimp only at hSw
          go_simp
          try with_reducible rfl
        try simp only [Act.put, List.setIfInBounds_toArray, List.set_cons_zero, List.set_cons_succ]
        refine wpAnyH_take (i := 10) (v := ?_) (by simp only [List.getElem?_toArray, List.getElem?_cons_zero, List.getElem?_cons_succ]; rfl) (by kernel_rfl) (by kernel_rfl) (by kernel_rfl) (by exact fun _ _ _ h => h) (Or.inl ⟨by rfl, ?_⟩) (by assumption) ?_
        rotate_left
        · intro w hSw
          try dsimp only at hSw
          go_simp
          try with_reducible rfl
        try simp only [Act.put, List.setIfInBounds_toArray, List.set_cons_zero, List.set_cons_succ]
        have q0 := blk_cell bG.out 0 _ rfl
        have q1 := blk_cell bG.out 1 _ rfl
        have f0 := blk_free bG.out 0
        have f1 := blk_free bG.out 1
        have hT : w5.grownBy ((w5.setCell ⟨wk.heap.size, 0, none⟩ (.slice a5 n5 c5)).setCell ⟨wk.heap.size, 1, none⟩ (.int .i64 R.2.1)) (some wk.heap.size) := turns_set (turns_set (World.grownBy.refl _ _) _ _) _ _
        have hk6 := turns_below hk5 hT hkk.size hk5.size
        refine wpAnyH_ready (rs := [12]) (by kernel_rfl) (by simp) ?_
        refine AllReadyH.cons (by simp only [List.getElem?_toArray, List.getElem?_cons_zero, List.getElem?_cons_succ]; rfl) (fun K hK => ?_) AllReadyH.nil
        go_simp
        refine hK.out _ _ (noteS bB.out bX.out hk6) (fun hHeld => ?_)
        clear hK K
        try simp only [Act.put, List.setIfInBounds_toArray, List.set_cons_zero, List.set_cons_succ]
        refine wpAnyH_take (i := 13) (v := ?_) (by simp only [List.getElem?_toArray, List.getElem?_cons_zero, List.getElem?_cons_succ]; rfl) (by kernel_rfl) (by kernel_rfl) (by kernel_rfl) (by exact fun _ _ _ h => h) (Or.inl ⟨by rfl, ?_⟩) (by assumption) ?_
        rotate_left
        · intro w hSw
          try dsimp only at hSw
          go_simp
          try with_reducible rfl
        try simp only [Act.put, List.setIfInBounds_toArray, List.set_cons_zero, List.set_cons_succ]
        refine wpAnyH_done (by kernel_rfl) ?_ _
        go_wp2_with fail
        go_meet
        case rel => exact ⟨wk.heap.size, a5, n5, c5, rfl, rfl, fl_set2 bG.out, ints_turns hi5 hT (off_fresh hf5 (by simp)), hn5, hc5, fun ad e => Nat.le_trans hcur.size (hf5 ad e), hk6, hkk.size⟩
    · go_simp
      refine hK.out _ _ (noteS bB.out bX.out (below_new (Below.refl W.heap.size W).drew _)) (fun hHeld => ?_)
      clear hK K
      try simp only [Act.put, List.setIfInBounds_toArray, List.set_cons_zero, List.set_cons_succ]
      refine wpAnyH_ready (rs := [6]) (by kernel_rfl) (by simp) ?_
      refine AllReadyH.cons (by simp only [List.getElem?_toArray, List.getElem?_cons_zero, List.getElem?_cons_succ]; rfl) (fun K hK => ?_) AllReadyH.nil
      go_simp
      have hc0 : Below W.heap.size W (W.drew.alloc (.cells #[.slice none 0 0, .int .i64 0] 27)) := below_new (Below.refl W.heap.size W).drew _
      refine (unhide HK _).mono ?_
      rintro e wk ⟨⟨ak, ck, rfl, hk1, hk2, hrk⟩, hbk⟩
      have hkk := (hc0).trans (hbk.mono (hc0).size)
      go_wp2_with fail
      refine hK.out _ _ (noteS bB.out bX.out hkk) (fun hHeld => ?_)
      clear hK K
      try simp only [Act.put, List.setIfInBounds_toArray, List.set_cons_zero, List.set_cons_succ]
      have bG0 : Hid (wk.heap[W.heap.size]? = some (.cells #[.slice none 0 0, .int .i64 0] 27 (0, 0))) := blk_below (heap_alloc_last W.drew _) hbk
      have hcur := hkk
      refine wpAnyH_ready (rs := [7]) (by kernel_rfl) (by simp) ?_
      refine AllReadyH.cons (by simp only [List.getElem?_toArray, List.getElem?_cons_zero, List.getElem?_cons_succ]; rfl) (fun K hK => ?_) AllReadyH.nil
      go_simp
      refine (unhide HA ak _ ck _ (hw.trans ((hcur).mono hw.size)) hrk rfl (Nat.le_trans hk1 hk2)).mono ?_
      rintro e w5 ⟨⟨a5, n5, c5, rfl, hi5, hn5, hc5, hf5⟩, hb5⟩
      have hk5 := (hcur).trans (hb5.mono (hcur).size)
      go_wp2_with fail
      refine hK.out _ _ (noteS bB.out bX.out hk5) (fun hHeld => ?_)
      clear hK K
      try simp only [Act.put, List.setIfInBounds_toArray, List.set_cons_zero, List.set_cons_succ]
      have bG : Hid (w5.heap[W.heap.size]? = some (.cells #[.slice none 0 0, .int .i64 0] 27 (0, 0))) := blk_below bG0.out hb5
      refine wpAnyH_take (i := 8) (v := ?_) (by simp only [List.getElem?_toArray, List.getElem?_cons_zero, List.getElem?_cons_succ]; rfl) (by kernel_rfl) (by kernel_rfl) (by kernel_rfl) (by exact fun _ _ _ h => h) (Or.inl ⟨by rfl, ?_⟩) (by assumption) ?_
      rotate_left
      · intro w hSw
        try dsimp only at hSw
        go_simp
        try with_reducible rfl
      try simp only [Act.put, List.setIfInBounds_toArray, List.set_cons_zero, List.set_cons_succ]
      refine wpAnyH_take (i := 9) (v := ?_) (by simp only [List.getElem?_toArray, List.getElem?_cons_zero, List.getElem?_cons_succ]; rfl) (by kernel_rfl) (by kernel_rfl) (by kernel_rfl) (by exact fun _ _ _ h => h) (Or.inl ⟨by rfl, ?_⟩) (by assumption) ?_
      rotate_left
      · intro w hSw
        try dsimp only at hSw
        go_simp
        try with_reducible rfl
      try simp only [Act.put, List.setIfInBounds_toArray, List.set_cons_zero, List.set_cons_succ]
      refine wpAnyH_take (i := 10) (v := ?_) (by simp only [List.getElem?_toArray, List.getElem?_cons_zero, List.getElem?_cons_succ]; rfl) (by kernel_rfl) (by kernel_rfl) (by kernel_rfl) (by exact fun _ _ _ h => h) (Or.inl ⟨by rfl, ?_⟩) (by assumption) ?_
      rotate_left
      · intro w hSw
        try dsimp only at hSw
        go_simp
        try with_reducible rfl
      try simp only [Act.put, List.setIfInBounds_toArray, List.set_cons_zero, List.set_cons_succ]
      have q0 := blk_cell bG.out 0 _ rfl
      have q1 := blk_cell bG.out 1 _ rfl
      have f0 := blk_free bG.out 0
      have f1 := blk_free bG.out 1
      have hT : w5.grownBy ((w5.setCell ⟨W.heap.size, 0, none⟩ (.slice a5 n5 c5)).setCell ⟨W.heap.size, 1, none⟩ (.int .i64 R.2.1)) (some W.heap.size) := turns_set (turns_set (World.grownBy.refl _ _) _ _) _ _
      have hk6 := turns_below hk5 hT (Nat.le_refl _) hk5.size
      refine wpAnyH_ready (rs := [12]) (by kernel_rfl) (by simp) ?_
      refine AllReadyH.cons (by simp only [List.getElem?_toArray, List.getElem?_cons_zero, List.getElem?_cons_succ]; rfl) (fun K hK => ?_) AllReadyH.nil
      go_simp
      refine hK.out _ _ (noteS bB.out bX.out hk6) (fun hHeld => ?_)
      clear hK K
      try simp only [Act.put, List.setIfInBounds_toArray, List.set_cons_zero, List.set_cons_succ]
      refine wpAnyH_take (i := 13) (v := ?_) (by simp only [List.getElem?_toArray, List.getElem?_cons_zero, List.getElem?_cons_succ]; rfl) (by kernel_rfl) (by kernel_rfl) (by kernel_rfl) (by exact fun _ _ _ h => h) (Or.inl ⟨by rfl, ?_⟩) (by assumption) ?_
      rotate_left
      · intro w hSw
        try dsimp only at hSw
        go_simp
        try with_reducible rfl
      try simp only [Act.put, List.setIfInBounds_toArray, List.set_cons_zero, List.set_cons_succ]
      refine wpAnyH_done (by kernel_rfl) ?_ _
      go_wp2_with fail
      go_meet
      case rel => exact ⟨W.heap.size, a5, n5, c5, rfl, rfl, fl_set2 bG.out, ints_turns hi5 hT (off_fresh hf5 (Nat.lt_of_lt_of_le (blk_lt bG0.out) (Nat.le_refl _))), hn5, hc5, fun ad e => Nat.le_trans hcur.size (hf5 ad e), hk6, (Nat.le_refl _)⟩
  case rest =>
  obtain ⟨G, a5, n5, c5, rfl, rfl, hG, hi5, hn5, hc5, hf5, hbW, hGs⟩ := hcut
  obtain ⟨w1, rfl⟩ : ∃ w1 : World, w1 = wc := ⟨_, rfl⟩
  have hb1 := hw.trans (hbW.mono hw.size)
  have bB1 := hide (blk_below bB.out hbW)
  have BG := hide hG
  have hGB : G ≠ B := by omega
  have HF5 : Hid (FreshA w.heap.size a5) := fun ad e => Nat.le_trans hw.size (hf5 ad e)
  have HI5 := hide hi5
  have HN5 := hide hn5
  have hmx : n5 ≤ maxLen := by rw [← hn5]; exact Nat.le_trans HLe.out (by rw [HP.out.own.ws.len]; exact HP.out.own.ws.max)
  have g0 := blk_cell hG 0 _ rfl
  have g1 := blk_cell hG 1 _ rfl
  unfold gtO at bB1
  have x0 := blk_cell bB1.out 0 _ rfl
  have f0 := blk_free bB1.out 0
  have x1 := blk_cell bB1.out 1 _ rfl
  have f1 := blk_free bB1.out 1
  have x2 := blk_cell bB1.out 2 _ rfl
  have f2 := blk_free bB1.out 2
  clear hi5 hn5 hf5 hG hw bX bB hbW hGs HA HK
  by_cases z7 : R.2.2 = 7
  · have d0 : (R.2.2 == 0) = false := by rw [z7]; rfl
    have d7 : (R.2.2 == 7) = true := by simpa using z7
    have HE : Hid (noteG g s r = _) := HN.out.trans (dnG_7 z7)
    clear z7
    have hT := turns_set (turns_set (turns_set (World.grownBy.refl w1 (some B)) 0 (.slice a5 n5 c5)) 1 (.int .i64 R.2.1)) 2 (.bool false)
    have NB := hide (GBox.flash (f := R.2.1) (up := false) HP.out hb1 HI5.out HN5.out hc5 hmx HF5.out hT (gt_set3 (g := g) (m := m) (by unfold gtO; exact bB1.out)))
    have HFg := hide (forget_any _ _ _ _ _ _ _ NB.out)
    go_wp2_with fail
    refine (unhide HFg).mono ?_
    rintro e w2 ⟨rfl, hb2, hg2⟩
    have HB2 := hide hb2
    have HG2 := hide hg2
    clear hb2 hg2 HFg
    go_wp2_with fail
    go_ret
    rw [HE.out]
    exact ⟨rfl, ⟨_, HB2.out⟩, ((g3_below hb1).trans (g3_of hT (.inl rfl))).trans HG2.out⟩
  have d7 : (R.2.2 == 7) = false := by simpa using z7
  by_cases z0 : R.2.2 = 0
  · have d0 : (R.2.2 == 0) = true := by simpa using z0
    have HE : Hid (noteG g s r = _) := HN.out.trans (dnG_0 z0)
    clear z0 z7
    have hT := turns_set (turns_set (World.grownBy.refl w1 (some B)) 0 (.slice a5 n5 c5)) 1 (.int .i64 R.2.1)
    have NB := hide (GBox.flash (f := R.2.1) (up := g.up) HP.out hb1 HI5.out HN5.out hc5 hmx HF5.out hT (gt_set2 (g := g) (m := m) (by unfold gtO; exact bB1.out)))
    go_wp2_with fail
    go_ret
    rw [HE.out]
    exact ⟨rfl, ⟨_, NB.out⟩, (g3_below hb1).trans (g3_of hT (.inl rfl))⟩
  have d0 : (R.2.2 == 0) = false := by simpa using z0
  have HE : Hid (noteG g s r = _) := HN.out.trans (dnG_e z7 z0)
  clear z0 z7
  go_wp2_with fail
  go_ret
  rw [HE.out]
  exact ⟨rfl, ⟨_, HP.out.below hb1⟩, g3_below hb1⟩

end Go.Proofs.YtgngpmgjoifepaaGreatDoor
