/- The ref's noted: a record in a gateway of one's own ('RBox': a gateway in a box, its lists elsewhere). -/
import Derived.Test.YtgngpmgjoifepaaGreatDoorPr33
import Derived.Test.YtgngpmgjoifepaaGreatDoorPr35
import Derived.Test.YtgngpmgjoifepaaGreatDoorPr17
import Derived.Test.YtgngpmgjoifepaaGreatDoorPr18
import Derived.Test.YtgngpmgjoifepaaGreatDoorPr19
import Derived.Test.YtgngpmgjoifepaaGreatDoorPr24
import Derived.Test.YtgngpmgjoifepaaGreatDoorPr36
import Derived.Deep.DeepCutAuto
import Derived.BigRegion
namespace Go.Proofs.YtgngpmgjoifepaaGreatDoor
open Go.RowKit
attribute [local go_sem ↓] Go.wp_at_zero Go.wp_at_succ

/-- A gateway in a box, its lists from block F on. -/
structure RBox (w : World) (F B : Nat) (m : GA) (g : Gt) : Prop where
  box : w.heap[B]? = some (gtO g m)
  gin : GIn w m g
  fr : GFr F m
  lt : B < F
  sz : F ≤ w.heap.size
theorem RBox.below {w w' : World} {F B : Nat} {m : GA} {g : Gt} (h : RBox w F B m g) (hb : Below w.heap.size w w') : RBox w' F B m g := ⟨blk_below h.box hb, h.gin.below hb, h.fr, h.lt, Nat.le_trans h.sz hb.size⟩
/-- The records that are kept, truth by truth. -/
def bK (s : Gs) (k : Nat) : Bool := if k = 0 then s.co else if k = 1 then s.ab else s.en
def kpK (s : Gs) : Nat → List (List Int)
  | 0 => if s.n = 0 then [] else [[1, s.n, s.v]]
  | k + 1 => kpK s k ++ if bK s k = true then [[(k : Int) + 2, s.n]] else []
theorem kpK_3 {s : Gs} (h : GsOk s) : kpK s 3 = kepG s := by
  by_cases z : s.n = 0
  · rw [h.none z]; rfl
  · rw [kepG_1 z]
    unfold kpK kpK kpK kpK bK
    rw [if_neg z]
    simp
theorem kpK_few (s : Gs) : ∀ k, (kpK s k).length ≤ k + 1
  | 0 => by unfold kpK; split <;> simp
  | k + 1 => by
    have := kpK_few s k
    unfold kpK
    split <;> simp <;> omega
theorem MakingR.more {w0 w w' : World} {v : Value} {rs : List (List Int)} (h : MakingR w0 w v rs) (hb : Below w.heap.size w w') : MakingR w0 w' v rs := by
  obtain ⟨vs, hown, hr⟩ := h.own
  refine ⟨⟨vs, ownsRow_below hown hb, fun i r hi => ?_⟩, h.below.trans (hb.mono h.below.size)⟩
  obtain ⟨g, c, h1, ⟨cur, h2, h3⟩, h4⟩ := hr i r hi
  exact ⟨g, c, h1, ⟨cur, blk_below h2 hb, h3⟩, h4⟩
theorem bK_cell {W : World} {E : Nat} {s : Gs} (h : W.heap[E]? = some (.cells #[.bool s.co, .bool s.ab, .bool s.en] 4 (0, 0))) {k : Nat} (hk : k < 3) : W.cell? ⟨E, k, none⟩ = some (.bool (bK s k)) := by
  match k, hk with
  | 0, _ => exact blk_cell h 0 _ rfl
  | 1, _ => exact blk_cell h 1 _ rfl
  | 2, _ => exact blk_cell h 2 _ rfl
theorem rbools_turns {w w' : World} {B : Nat} {a : Option Addr} {bs : List Bool} (h : IsBools w a bs) (hg : w.grownBy w' (some B)) (ho : Off B a) : IsBools w' a bs := by
  rcases h with h | ⟨b, off, rfl, hc⟩
  · exact .inl h
  · exact .inr ⟨b, off, rfl, fun i hi => hg.cell (hc i hi) (fun e => ho _ rfl (by cases e; rfl))⟩
theorem rin_turns {w w' : World} {B F : Nat} {m : GA} {g : Gt} (h : GIn w m g) (hf : GFr F m) (hB : B < F) (hg : w.grownBy w' (some B)) : GIn w' m g :=
  ⟨h.ws.turns hg (off_fresh hf.a hB), h.ks.turns hg (off_fresh hf.ak hB), ⟨rbools_turns h.vo.at_ hg (off_fresh hf.av hB), h.vo.len, h.vo.cap, h.vo.max⟩, ⟨rbools_turns h.di.at_ hg (off_fresh hf.ad hB), h.di.len, h.di.cap, h.di.max⟩⟩
theorem RBox.flash {w wc W' : World} {F B : Nat} {m : GA} {g : Gt} {ws : List Int} {f : Int} {up : Bool} {a : Option Addr} {n c : Nat} (h : RBox w F B m g) (hb : Below w.heap.size w wc) (hi : IsInts wc a ws) (hn : ws.length = n) (hc : n ≤ c) (hm : n ≤ maxLen) (hf : FreshA w.heap.size a)
    (hg : wc.grownBy W' (some B)) (hbox : W'.heap[B]? = some (gtO ⟨ws, f, up, g.t, g.vo, g.di⟩ ⟨a, n, c, m.ak, m.nk, m.ck, m.av, m.nv, m.cv, m.ad, m.nd, m.cd⟩)) : RBox W' F B ⟨a, n, c, m.ak, m.nk, m.ck, m.av, m.nv, m.cv, m.ad, m.nd, m.cd⟩ ⟨ws, f, up, g.t, g.vo, g.di⟩ := by
  have hB := blk_lt h.box
  have hq := rin_turns (h.gin.below hb) h.fr h.lt hg
  exact ⟨hbox, ⟨⟨ints_turns hi hg (off_fresh hf hB), hn, hc, hm⟩, hq.ks, hq.vo, hq.di⟩, ⟨hf.lower h.sz, h.fr.ak, h.fr.av, h.fr.ad⟩, h.lt, Nat.le_trans h.sz (Nat.le_trans hb.size hg.size)⟩
theorem falses_rep {l : List Bool} {n : Nat} (h : l.length = n) : falses l = List.replicate n false := by unfold falses; subst h; induction l with | nil => rfl | cons a l ih => simp [List.replicate_succ, ih]
theorem ntd_box {w wc W7 w8 : World} {F B av ad : Nat} {m : GA} {g : Gt} {ws : List Int} {f : Int} {a : Option Addr} {n c : Nat} (h : RBox w F B m g) (hb : Below w.heap.size w wc) (hi : IsInts W7 a ws) (hn : ws.length = n) (hc : n ≤ c) (hm : n ≤ maxLen) (hf : FreshA w.heap.size a)
    (hg : wc.grownBy W7 (some B)) (hg2 : W7.grownBy w8 (some B)) (hbox : w8.heap[B]? = some (gtO ⟨ws, f, false, g.t, falses g.vo, falses g.di⟩ ⟨a, n, c, m.ak, m.nk, m.ck, some ⟨av, 0, none⟩, m.nv, m.nv, some ⟨ad, 0, none⟩, m.nd, m.nd⟩))
    (hv : OwnB w8 av (List.replicate m.nv false)) (hd : OwnB w8 ad (List.replicate m.nd false)) (h1 : W7.heap.size ≤ av) (h2 : W7.heap.size ≤ ad) : RBox w8 F B ⟨a, n, c, m.ak, m.nk, m.ck, some ⟨av, 0, none⟩, m.nv, m.nv, some ⟨ad, 0, none⟩, m.nd, m.nd⟩ ⟨ws, f, false, g.t, falses g.vo, falses g.di⟩ := by
  have hB := blk_lt h.box
  have e1 := falses_rep h.gin.vo.len
  have e2 := falses_rep h.gin.di.len
  have hq := rin_turns (rin_turns (h.gin.below hb) h.fr h.lt hg) h.fr h.lt hg2
  have hs := h.sz
  have hs2 := hb.size
  have hs3 := hg.size
  have hs4 := hg2.size
  refine ⟨hbox, ⟨⟨ints_turns hi hg2 (off_fresh hf hB), hn, hc, hm⟩, hq.ks, ⟨?_, ?_, Nat.le_refl _, h.gin.vo.max⟩, ⟨?_, ?_, Nat.le_refl _, h.gin.di.max⟩⟩, ⟨hf.lower h.sz, h.fr.ak, fun ad' e => by cases e; show F ≤ av; omega, fun ad' e => by cases e; show F ≤ ad; omega⟩, h.lt, by omega⟩
  · dsimp only; rw [e1]; exact hv.bools
  · dsimp only; rw [e1]; simp
  · dsimp only; rw [e2]; exact hd.bools
  · dsimp only; rw [e2]; simp
/-- What a region has done so far to the box B of world W: its cells, and the rows that were made. -/
def St (W : World) (B nv nd : Nat) (X : World) (cs : Array Value) (ov od : Option Nat) : Prop :=
  (X.heap[B]? = some (.cells cs 68 (0, 0)) ∧ W.grownBy X (some B) ∧ B < W.heap.size) ∧ (∀ a, ov = some a → OwnB X a (List.replicate nv false) ∧ W.heap.size ≤ a) ∧ ∀ a, od = some a → OwnB X a (List.replicate nd false) ∧ W.heap.size ≤ a
theorem St.start {W : World} {B bN bD : Nat} {cs : Array Value} (h : W.heap[B]? = some (.cells cs 68 (0, 0))) : St W B bN bD W cs none none :=
  ⟨⟨h, World.grownBy.refl _ _, blk_lt h⟩, (fun _ e => by cases e), (fun _ e => by cases e)⟩
theorem St.drew {W X : World} {B nv nd : Nat} {cs : Array Value} {ov od : Option Nat} (h : St W B nv nd X cs ov od) : St W B nv nd X.drew cs ov od :=
  ⟨⟨h.1.1, h.1.2.1.trans (turns_of (Below.refl _ _).drew B), h.1.2.2⟩, fun a e => ⟨(h.2.1 a e).1.below (Below.refl _ _).drew, (h.2.1 a e).2⟩, fun a e => ⟨(h.2.2 a e).1.below (Below.refl _ _).drew, (h.2.2 a e).2⟩⟩
theorem St.store {W X : World} {B nv nd i : Nat} {cs : Array Value} {v : Value} {ov od : Option Nat} (h : St W B nv nd X cs ov od) : St W B nv nd (X.setCell ⟨B, i, none⟩ v) (cs.setIfInBounds i v) ov od := by
  have hT : X.grownBy (X.setCell ⟨B, i, none⟩ v) (some B) := turns_set1 _ _ _ _
  refine ⟨⟨heap_setCell_same _ _ _ _ _ _ h.1.1, h.1.2.1.trans hT, h.1.2.2⟩, fun a e => ?_, fun a e => ?_⟩
  · obtain ⟨q1, q2⟩ := h.2.1 a e; have := h.1.2.2; exact ⟨q1.turns hT (by omega), q2⟩
  · obtain ⟨q1, q2⟩ := h.2.2 a e; have := h.1.2.2; exact ⟨q1.turns hT (by omega), q2⟩
theorem St.makeV {W X : World} {B nv nd n : Nat} {cs : Array Value} {od : Option Nat} (h : St W B nv nd X cs none od) (hn : X.heap.size = n) : St W B nv nd (X.alloc (.cells (bvals (List.replicate nv false)).toArray 4)) cs (some n) od := by
  subst hn
  have hb : Below X.heap.size X (X.alloc (.cells (bvals (List.replicate nv false)).toArray 4)) := below_new (Below.refl _ _) _
  refine ⟨⟨blk_below h.1.1 hb, h.1.2.1.trans (turns_of hb B), h.1.2.2⟩, fun a e => ?_, fun a e => ?_⟩
  · cases e; exact ⟨ownB_made (heap_alloc_last X _), h.1.2.1.size⟩
  · obtain ⟨q1, q2⟩ := h.2.2 a e; exact ⟨q1.below hb, q2⟩
theorem St.makeD {W X : World} {B nv nd n : Nat} {cs : Array Value} {ov : Option Nat} (h : St W B nv nd X cs ov none) (hn : X.heap.size = n) : St W B nv nd (X.alloc (.cells (bvals (List.replicate nd false)).toArray 4)) cs ov (some n) := by
  subst hn
  have hb : Below X.heap.size X (X.alloc (.cells (bvals (List.replicate nd false)).toArray 4)) := below_new (Below.refl _ _) _
  refine ⟨⟨blk_below h.1.1 hb, h.1.2.1.trans (turns_of hb B), h.1.2.2⟩, fun a e => ?_, fun a e => ?_⟩
  · obtain ⟨q1, q2⟩ := h.2.1 a e; exact ⟨q1.below hb, q2⟩
  · cases e; exact ⟨ownB_made (heap_alloc_last X _), h.1.2.1.size⟩
theorem St.fin {W X : World} {B nv nd av ad : Nat} {cs cs' : Array Value} (h : St W B nv nd X cs' (some av) (some ad)) (e : cs' = cs) : X.heap[B]? = some (.cells cs 68 (0, 0)) ∧ OwnB X av (List.replicate nv false) ∧ OwnB X ad (List.replicate nd false) ∧ W.heap.size ≤ av ∧ W.heap.size ≤ ad ∧ W.grownBy X (some B) :=
  e ▸ ⟨h.1.1, (h.2.1 _ rfl).1, (h.2.2 _ rfl).1, (h.2.1 _ rfl).2, (h.2.2 _ rfl).2, h.1.2.1⟩
set_option maxRecDepth 100000 in
set_option maxHeartbeats 12800000 in
theorem noted_any (F B : Nat) (m : GA) (g : Gt) (ar : Option Addr) (nr cr : Nat) (r : List Int) (w : World) (h : RBox w F B m g) (hr : BI w ar nr r) (hk : lchk g.ws g.fu = 0) (hnv : m.nv ≤ 4) (hnd : m.nd ≤ 4) :
    Calls Tryz.prog 94 #[.pointer (some ⟨B, 0, none⟩), .slice ar nr cr] w fun e w' => e = .returned (.bool (noteG g (gOf g.ws) r).2) ∧ (∃ m', RBox w' F B m' (noteG g (gOf g.ws) r).1) ∧ w.grownBy w' (some B) := by
  obtain ⟨irr, hir, rz0, rz1, rz2⟩ := info_parts info_record
  obtain ⟨s, hs⟩ : ∃ s, s = gOf g.ws := ⟨_, rfl⟩
  have hok : GsOk s := by rw [hs]; exact gsOk_of _
  have b0 := hide h.box
  unfold gtO at b0
  have HP := hide h
  have HS := hide (refState_any g m w h.gin hk)
  have HA := hide (fun ak nk ck (W : World) (hW : Below w.heap.size w W) (hq : IsRecs W ak (kepG s)) (hnk : (kepG s).length = nk) (hmk : nk ≤ maxLen) => appended_any m.a m.n m.c g.ws g.fu ar nr cr r ak nk ck (kepG s) W (h.gin.ws.below hW).at_ h.gin.ws.len h.gin.ws.cap hk (hr.below hW).at_ hr.len hr.max hq hnk hmk)
  rw [← hs] at HS ⊢
  clear hs
  obtain ⟨R, hR⟩ : ∃ R, R = appS g.ws g.fu r (kepG s) := ⟨_, rfl⟩
  rw [← hR] at HA
  have HN : Hid (noteG g s r = dnG g R) := by rw [hR]; exact hide rfl
  have HLe : Hid (R.1.length ≤ g.ws.length) := by rw [hR]; exact appS_len _ _ _ _
  have hBw := blk_lt b0.out
  clear h hr hR hk
  unfold gtv gsv at HS
  have x0 := blk_cell b0.out 0 _ rfl
  have x1 := blk_cell b0.out 1 _ rfl
  have x2 := blk_cell b0.out 2 _ rfl
  have x3 := blk_cell b0.out 3 _ rfl
  have x4 := blk_cell b0.out 4 _ rfl
  have x5 := blk_cell b0.out 5 _ rfl
  have x6 := blk_cell b0.out 6 _ rfl
  have x7 := blk_cell b0.out 7 _ rfl
  have x8 := blk_cell b0.out 8 _ rfl
  go_enter Tryz.func94, Tryz.ntmps94
  go_wp2_with fail
  refine (unhide HS).mono ?_
  rintro e w1 ⟨rfl, hb⟩
  clear HS x0 x1 x2 x3 x4 x5 x6 x7 x8
  go_upto_region 3 with fail
  have hw : Below w.heap.size w (w1.alloc (.cells #[.int .i64 s.n, .int .i64 s.v, .bool s.co, .bool s.ab, .bool s.en] 82)) := below_new hb _
  have bX := hide (heap_alloc_last w1 (.cells #[.int .i64 s.n, .int .i64 s.v, .bool s.co, .bool s.ab, .bool s.en] 82))
  replace b0 := hide (blk_below b0.out hw)
  have hXw : w1.heap.size < (w1.alloc (.cells #[.int .i64 s.n, .int .i64 s.v, .bool s.co, .bool s.ab, .bool s.en] 82)).heap.size := by simp
  have hwX := hb.size
  clear hb
  generalize w1.alloc (.cells #[.int .i64 s.n, .int .i64 s.v, .bool s.co, .bool s.ab, .bool s.en] 82) = W at *
  generalize w1.heap.size = X at *
  have s0 := blk_cell bX.out 0 _ rfl
  have s1 := blk_cell bX.out 1 _ rfl
  go_upto_if 17 with fail
  go_cut [6] (fun v wc => ∃ q, q = v ∧ MakingR W wc q (kpK s 0))
  case first =>
    by_cases z : s.n = 0
    · have d : (s.n == 0) = true := by simpa using z
      have HE : Hid (kpK s 0 = []) := by unfold kpK; rw [if_pos z]; exact hide rfl
      clear z
      go_wp2_with fail
      go_meet
      case rel => exact ⟨_, rfl, by rw [HE.out]; exact makingR_nil (Below.refl _ _)⟩
    · have d : (s.n == 0) = false := by simpa using z
      have HE : Hid (kpK s 0 = [[1, s.n, s.v]]) := by unfold kpK; rw [if_neg z]; exact hide rfl
      clear z
      go_wp2_with fail
      go_meet
      case rel =>
        refine ⟨_, rfl, ?_⟩
        rw [HE.out]
        refine ⟨⟨[.slice (some ⟨W.heap.size, 0, none⟩) 3 3], ⟨rfl, .inr ⟨_, 1, _, rfl, by omega, uLast1 W (.cells #[.int .i64 1, .int .i64 s.n, .int .i64 s.v] 3) (.cells #[.slice (some ⟨W.heap.size, 0, none⟩) 3 3] 133), Nat.le_refl _, by decide, rfl, rfl⟩⟩, fun i r hi => ?_⟩, below_new (below_new (Below.refl _ _) _) _⟩
        match i with
        | 0 => simp at hi; subst hi; exact ⟨_, 3, rfl, ⟨_, blk_alloc (heap_alloc_last W (.cells #[.int .i64 1, .int .i64 s.n, .int .i64 s.v] 3)) _, rfl⟩, Nat.le_refl _, by decide⟩
        | i + 1 => simp at hi
  case rest =>
  obtain ⟨q, rfl, hm0⟩ := hcut
  obtain ⟨w2, rfl⟩ : ∃ w2 : World, w2 = wc := ⟨_, rfl⟩
  have hmk0 := hide hm0
  have hW2 := hm0.below.size
  clear hm0 s0 s1
  have bX0 := hide (blk_below bX.out hmk0.out.below)
  have s2 := blk_cell bX0.out 2 _ rfl
  have s3 := blk_cell bX0.out 3 _ rfl
  have s4 := blk_cell bX0.out 4 _ rfl
  have hbE : Below w2.heap.size w2 (w2.alloc (.cells #[.bool s.co, .bool s.ab, .bool s.en] 4)) := below_new (Below.refl _ _) _
  have bE := hide (heap_alloc_last w2 (.cells #[.bool s.co, .bool s.ab, .bool s.en] 4))
  replace hmk0 := hide (hmk0.out.more hbE)
  clear hbE
  go_wp2_with fail
  generalize w2.alloc (.cells #[.bool s.co, .bool s.ab, .bool s.en] 4) = W3 at *
  generalize w2.heap.size = E at *
  clear s2 s3 s4 bX0
  go_loopw [6, 32] (fun v i wr => ∃ q, ∃ k : Nat, q = v ∧ k ≤ 3 ∧ i = .int .i64 k ∧ MakingR W wr q (kpK s k) ∧ wr.heap[E]? = some (.cells #[.bool s.co, .bool s.ab, .bool s.en] 4 (0, 0))) (fun _ i _ => 3 - (intOf i).toNat)
  case atStart => exact ⟨_, 0, rfl, by omega, rfl, hmk0.out, bE.out⟩
  case round =>
    obtain ⟨q, k, rfl, hk, rfl, hmk, hbE⟩ := hrel
    have bX1 := hide (blk_below bX.out hmk.below)
    have BE := hide hbE
    have HM := hide hmk
    have hWr := hmk.below.size
    clear hmk0 bE
    by_cases hlt : k < 3
    · have c := bK_cell hbE hlt
      have hltI : (k : Int) < 3 := by omega
      have hfew := kpK_few s k
      clear hbE hmk
      cases z : bK s k
      · have HE : Hid (kpK s (k + 1) = kpK s k) := by show _ = _; rw [kpK, z]; simp
        rw [z] at c
        clear z
        go_wp2_with fail
        go_roundw
        case rel => exact ⟨_, k + 1, rfl, by omega, by go_num, by rw [HE.out]; exact HM.out, BE.out⟩
        case measure => simp [intOf]; omega
      · have HE : Hid (kpK s (k + 1) = kpK s k ++ [[(k : Int) + 2, s.n]]) := by show _ = _; rw [kpK, z]; simp
        rw [z] at c
        clear z
        obtain ⟨vs, hown, hr⟩ := HM.out.own
        generalize kpK s k = rs at *
        have hbB := below_new (below_new (Below.refl wr.heap.size wr) (.cells #[.int .i64 ((k : Int) + 2), .int .i64 s.n] 3)) (.cells #[.slice (some ⟨wr.heap.size, 0, none⟩) 2 2] 133)
        have hrow := ownsRow_below hown hbB
        have hnews := news_one (wr.alloc (.cells #[.int .i64 ((k : Int) + 2), .int .i64 s.n] 3)) (.slice (some ⟨wr.heap.size, 0, none⟩) 2 2) 133
        rw [World.size_alloc] at hnews
        have bR := hide (blk_alloc (heap_alloc_last wr (.cells #[.int .i64 ((k : Int) + 2), .int .i64 s.n] 3)) (.cells #[.slice (some ⟨wr.heap.size, 0, none⟩) 2 2] 133))
        have s0 := blk_cell bX1.out 0 _ rfl
        have HO := hide hown
        have HR := hide hr
        have hbe := HM.out.below
        clear hown hr
        go_wp2_with (at_builtin; refine wpList_append_lies _ rfl _ _ 130 rfl W.heap.size 133 irr _ 1 24 Tryz.underlying130 hir rz0 rz1 rz2 rfl (by omega) q rs.length vs rfl hrow ⟨wr.heap.size + 1, 0, none⟩ 1 1 [.slice (some ⟨wr.heap.size, 0, none⟩) 2 2] rfl rfl hnews (one_one _ _ _) (by omega) (by unfold maxLen; omega) (by omega) (by simp; omega) _ rfl ?_)
        intro g5 cap w5 hown5 hgr hat hlt5
        have hE5 : w5.heap[E]? = some (.cells #[.bool s.co, .bool s.ab, .bool s.en] 4 (0, 0)) := by
          have h1 := blk_below BE.out hbB
          rw [hgr.block E (blk_lt h1) (row_ne (cs := []) hrow h1 (by decide) rfl)]
          exact h1
        have hmk5 := hide (MakingR.step (r := [(k : Int) + 2, s.n]) hbe HO.out HR.out hbB ⟨_, bR.out, rfl⟩ (Nat.le_refl 2) (by decide) hown5 hgr)
        have HE5 := hide hE5
        clear hown5 hgr hat hE5 s0 hrow hnews c
        go_wp2_with fail
        go_roundw
        case rel => exact ⟨_, k + 1, rfl, by omega, by go_num, by rw [HE.out]; exact hmk5.out, HE5.out⟩
        case measure => simp [intOf]; omega
    obtain rfl : k = 3 := by omega
    rw [kpK_3 hok] at hmk
    obtain ⟨ak, ck, rfl, hc1, hc2, hrc⟩ := hmk.isRecs
    replace b0 := hide (blk_below b0.out hmk.below)
    have hwr := hw.trans (hmk.below.mono hw.size)
    have HRc := hide hrc
    clear hmk hbE BE HM hrc hlt bX1 hk
    have x0 := blk_cell b0.out 0 _ rfl
    have x1 := blk_cell b0.out 1 _ rfl
    go_wp2_with fail
    refine (unhide HA ak _ ck _ hwr HRc.out rfl (Nat.le_trans hc1 hc2)).mono ?_
    rintro e w5 ⟨⟨a5, n5, c5, rfl, hi5, hn5, hc5, hf5⟩, hb5⟩
    clear HA HRc x0 x1
    go_upto_region 12 with fail
    have hb6 : Below wr.heap.size wr (w5.alloc (.cells #[.slice a5 n5 c5, .int .i64 R.2.1] 27)) := below_new hb5 _
    have bG := hide (heap_alloc_last w5 (.cells #[.slice a5 n5 c5, .int .i64 R.2.1] 27))
    have HI := hide (hi5.alloc (.cells #[.slice a5 n5 c5, .int .i64 R.2.1] 27))
    have hG5 : wr.heap.size ≤ w5.heap.size := hb5.size
    replace b0 := hide (blk_below b0.out hb6)
    have HF5 : Hid (FreshA w.heap.size a5) := fun ad e => Nat.le_trans hwr.size (hf5 ad e)
    have hw6 := hwr.trans (hb6.mono hwr.size)
    generalize w5.alloc (.cells #[.slice a5 n5 c5, .int .i64 R.2.1] 27) = W6 at *
    generalize w5.heap.size = G at *
    have hmx : n5 ≤ maxLen := by rw [← hn5]; exact Nat.le_trans HLe.out (by rw [HP.out.gin.ws.len]; exact HP.out.gin.ws.max)
    have HN5 := hide hn5
    clear hi5 hn5 hf5 hb5 hb6
    have g0 := blk_cell bG.out 0 _ rfl
    have g1 := blk_cell bG.out 1 _ rfl
    have x0 := blk_cell b0.out 0 _ rfl
    have x1 := blk_cell b0.out 1 _ rfl
    have f0 := blk_free b0.out 0
    have f1 := blk_free b0.out 1
    by_cases z7 : R.2.2 = 7
    · have d0 : (R.2.2 == 0) = false := by rw [z7]; rfl
      have d7 : (R.2.2 == 7) = true := by simpa using z7
      have HE : Hid (noteG g s r = _) := HN.out.trans (dnG_7 z7)
      clear z7
      go_upto_region 15 with fail
      have hT : W6.grownBy ((W6.setCell ⟨B, 0, none⟩ (.slice a5 n5 c5)).setCell ⟨B, 1, none⟩ (.int .i64 R.2.1)) (some B) := turns_set (turns_set (World.grownBy.refl _ _) _ _) _ _
      have bN : Hid (((W6.setCell ⟨B, 0, none⟩ (.slice a5 n5 c5)).setCell ⟨B, 1, none⟩ (.int .i64 R.2.1)).heap[B]? = some (.cells #[.slice a5 n5 c5, .int .i64 R.2.1, .bool g.up, .int .i64 g.t.r.v, .slice m.ak m.nk m.ck, .int .i64 g.t.r.t, .int .i64 g.t.ver, .slice m.av m.nv m.cv, .slice m.ad m.nd m.cd] 68 (0, 0))) := by have e := b0.out; show _ = _; simp only [World.setCell, Array.getElem?_modify]; simp [e]
      have hs7 : ((W6.setCell ⟨B, 0, none⟩ (.slice a5 n5 c5)).setCell ⟨B, 1, none⟩ (.int .i64 R.2.1)).heap.size = W6.heap.size := by simp
      have hB6 : B < W6.heap.size := blk_lt b0.out
      have HI7 := hide (ints_turns HI.out hT (off_fresh HF5.out hBw))
      have hgw : w.grownBy ((W6.setCell ⟨B, 0, none⟩ (.slice a5 n5 c5)).setCell ⟨B, 1, none⟩ (.int .i64 R.2.1)) (some B) := (turns_of hw6 B).trans hT
      clear x0 x1 f0 f1 g0 g1 b0 HI
      have hT7 := hide hT
      clear hT
      generalize ((W6.setCell ⟨B, 0, none⟩ (.slice a5 n5 c5)).setCell ⟨B, 1, none⟩ (.int .i64 R.2.1)) = W7 at *
      go_cut [10] (fun v wc => v = .int .i64 R.2.2 ∧ ∃ av ad, wc.heap[B]? = some (.cells #[.slice a5 n5 c5, .int .i64 R.2.1, .bool false, .int .i64 g.t.r.v, .slice m.ak m.nk m.ck, .int .i64 g.t.r.t, .int .i64 g.t.ver, .slice (some ⟨av, 0, none⟩) m.nv m.nv, .slice (some ⟨ad, 0, none⟩) m.nd m.nd] 68 (0, 0)) ∧ OwnB wc av (List.replicate m.nv false) ∧ OwnB wc ad (List.replicate m.nd false) ∧ W7.heap.size ≤ av ∧ W7.heap.size ≤ ad ∧ W7.grownBy wc (some B))
      case first =>
        have hmv := fun W => make_bools m.nv W hnv
        have hmd := fun W => make_bools m.nd W hnd
        have y2 := blk_cell bN.out 2 _ rfl
        have y7 := blk_cell bN.out 7 _ rfl
        have y8 := blk_cell bN.out 8 _ rfl
        have f2 := blk_free bN.out 2
        have f7 := blk_free bN.out 7
        have f8 := blk_free bN.out 8
        have hB7 := blk_lt bN.out
        have St0 := hide (St.start bN.out (bN := m.nv) (bD := m.nd))
        clear HI7 HN5 HF5 hT7 HLe HN HE HP hgw hs7
        go_region
        · go_wp2_with fail
          go_meet
          case rel => exact ⟨rfl, W7.heap.size, W7.heap.size + 1, St.fin (St.drew (St.makeD (St.makeV (St.store (St.store (St.store St0.out))) (by simp)) (by simp))) (by rfl)⟩
        · go_wp2_with fail
          go_meet
          case rel => exact ⟨rfl, W7.heap.size + 1, W7.heap.size, St.fin (St.drew (St.makeV (St.makeD (St.store (St.store (St.store St0.out))) (by simp)) (by simp))) (by rfl)⟩
      case rest =>
      obtain ⟨rfl, av, ad, hbx, hov, hod, hav, had, hgr⟩ := hcut
      obtain ⟨w8, rfl⟩ : ∃ w8 : World, w8 = wc := ⟨_, rfl⟩
      have BX := hide hbx
      have HOV := hide hov
      have HOD := hide hod
      have HG := hide hgr
      clear hbx hov hod hgr
      go_wp2_with fail
      go_ret
      rw [HE.out]
      refine ⟨rfl, ⟨_, ntd_box HP.out hw6 HI7.out HN5.out hc5 hmx HF5.out hT7.out HG.out BX.out HOV.out HOD.out hav had⟩, hgw.trans HG.out⟩
    have d7 : (R.2.2 == 7) = false := by simpa using z7
    by_cases z0 : R.2.2 = 0
    · have d0 : (R.2.2 == 0) = true := by simpa using z0
      have HE : Hid (noteG g s r = _) := HN.out.trans (dnG_0 z0)
      clear z0 z7
      have hT : W6.grownBy ((W6.setCell ⟨B, 0, none⟩ (.slice a5 n5 c5)).setCell ⟨B, 1, none⟩ (.int .i64 R.2.1)) (some B) := turns_set (turns_set (World.grownBy.refl _ _) _ _) _ _
      have NB := hide (RBox.flash (f := R.2.1) (up := g.up) HP.out hw6 HI.out HN5.out hc5 hmx HF5.out hT (gt_set2 (g := g) (m := m) (by unfold gtO; exact b0.out)))
      have hgw := hide ((turns_of hw6 B).trans hT)
      clear hT
      go_wp2_with fail
      go_ret
      rw [HE.out]
      exact ⟨rfl, ⟨_, NB.out⟩, hgw.out⟩
    have d0 : (R.2.2 == 0) = false := by simpa using z0
    have HE : Hid (noteG g s r = _) := HN.out.trans (dnG_e z7 z0)
    clear z0 z7
    go_wp2_with fail
    go_ret
    rw [HE.out]
    exact ⟨rfl, ⟨_, HP.out.below hw6⟩, turns_of hw6 B⟩

end Go.Proofs.YtgngpmgjoifepaaGreatDoor
