/- The contract of gate.count, of either list. What a call that answers a gateway and an error leaves ('GAns'); the contract of gate.Boot. -/
import Derived.Test.YtgngpmgjoifepaaGreatDoorPr17
import Derived.Test.YtgngpmgjoifepaaGreatDoorPr15
namespace Go.Proofs.YtgngpmgjoifepaaGreatDoor
open Go.RowKit
attribute [local go_sem ↓] Go.wp_at_zero Go.wp_at_succ

def setVo (g : Gt) (u : Int) : Gt := ⟨g.ws, g.fu, g.up, g.t, setB g.vo u, g.di⟩
def setDi (g : Gt) (u : Int) : Gt := ⟨g.ws, g.fu, g.up, g.t, g.vo, setB g.di u⟩
theorem setB_len (l : List Bool) (u : Int) : (setB l u).length = l.length := by unfold setB; simp
theorem OwnB.setB {w : World} {b : Nat} {bs : List Bool} (h : OwnB w b bs) (u : Nat) : OwnB (w.setCell ⟨b, u, none⟩ (.bool true)) b (setB bs u) := by
  have := h.set u true
  unfold Go.Proofs.YtgngpmgjoifepaaGreatDoor.setB
  rwa [Int.toNat_natCast]
theorem GBox.setV {w : World} {F B : Nat} {m : GA} {g : Gt} {bv bd : Nat} (h : GBox w F B m g bv bd) (u : Nat) : GBox (w.setCell ⟨bv, u, none⟩ (.bool true)) F B m (setVo g u) bv bd := by
  have hT : w.grownBy (w.setCell ⟨bv, u, none⟩ (.bool true)) (some bv) := turns_set1 _ _ _ _
  have o := h.own
  exact ⟨blk_turns h.box hT h.nv, ⟨o.ws.turns hT o.wv, o.ks.turns hT o.kv, o.av, o.ad, o.vo.setB u, o.di.turns hT (Ne.symm o.ne), ⟨(setB_len _ _).trans o.nv.1, o.nv.2⟩, o.nd, o.fv, o.fd, o.ne, o.wv, o.wd, o.kv, o.kd, o.fa, o.fk⟩, h.fB, h.nv, h.nd, h.oa, h.ok⟩
theorem GBox.setD {w : World} {F B : Nat} {m : GA} {g : Gt} {bv bd : Nat} (h : GBox w F B m g bv bd) (u : Nat) : GBox (w.setCell ⟨bd, u, none⟩ (.bool true)) F B m (setDi g u) bv bd := by
  have hT : w.grownBy (w.setCell ⟨bd, u, none⟩ (.bool true)) (some bd) := turns_set1 _ _ _ _
  have o := h.own
  exact ⟨blk_turns h.box hT h.nd, ⟨o.ws.turns hT o.wd, o.ks.turns hT o.kd, o.av, o.ad, o.vo.turns hT o.ne, o.di.setB u, o.nv, ⟨(setB_len _ _).trans o.nd.1, o.nd.2⟩, o.fv, o.fd, o.ne, o.wv, o.wd, o.kv, o.kd, o.fa, o.fk⟩, h.fB, h.nv, h.nd, h.oa, h.ok⟩
theorem OwnB.cell {w : World} {b : Nat} {bs : List Bool} (h : OwnB w b bs) (i : Nat) (hi : i < bs.length) : w.cell? ⟨b, i, none⟩ = some (.bool (bs.getD i false)) ∧ w.frozen? ⟨b, i, none⟩ = false := by
  obtain ⟨cur, h1, h2, h3⟩ := h
  refine ⟨blk_cell h1 i _ ?_, blk_free h1 i⟩
  have := bvals_get bs i hi
  rw [← h2, List.getElem?_take, if_pos hi] at this
  simpa using this

theorem gi_made2 (w : World) (x y : Int) (t : TypeId) : BI (w.alloc (.cells #[.int .i64 x, .int .i64 y] t)) (some ⟨w.heap.size, 0, none⟩) 2 [x, y] :=
  ⟨isInts2 (blk_cell (heap_alloc_last _ _) 0 _ rfl) (blk_cell (heap_alloc_last _ _) 1 _ rfl), rfl, by decide⟩

/-- What count makes of it. -/
def ctgV (g : Gt) (s : Gs) (u kind : Int) : Gt := if allB (setB g.vo u) = true then (noteG (setVo g u) s [kind, s.n]).1 else setVo g u
set_option maxRecDepth 100000 in
set_option maxHeartbeats 1600000 in
theorem countV_any (F B : Nat) (m : GA) (g : Gt) (bv bd : Nat) (s : Gs) (u : Nat) (kind : Int) (w : World) (h : GBox w F B m g bv bd) (hu : u < m.nv) :
    Calls Tryz.prog 99 #[.pointer (some ⟨B, 0, none⟩), .slice (some ⟨bv, 0, none⟩) m.nv m.cv, .int .i64 u, gsv s, .int .i64 kind] w fun e w' => e = .returned (.tuple #[]) ∧ (∃ m', GBox w' F B m' (ctgV g s u kind) bv bd) ∧ G3 w w' B bv bd := by
  have h4 := h.own.nv.2.2.2
  have hl := h.own.nv.1
  have hcl := h.own.vo.cell u (by rw [hl]; exact hu)
  have hT : w.grownBy (w.setCell ⟨bv, u, none⟩ (.bool true)) (some bv) := turns_set1 _ _ _ _
  have h1 := GBox.setV h u
  have hw : Below (w.setCell ⟨bv, u, none⟩ (.bool true)).heap.size (w.setCell ⟨bv, u, none⟩ (.bool true)) ((w.setCell ⟨bv, u, none⟩ (.bool true)).alloc (.cells #[.int .i64 s.n, .int .i64 s.v, .bool s.co, .bool s.ab, .bool s.en] 82)) := (Below.refl _ _).alloc (Nat.le_refl _) _
  have h2 := hide (h1.below hw)
  have hX : Hid (((w.setCell ⟨bv, u, none⟩ (.bool true)).alloc (.cells #[.int .i64 s.n, .int .i64 s.v, .bool s.co, .bool s.ab, .bool s.en] 82)).heap[(w.setCell ⟨bv, u, none⟩ (.bool true)).heap.size]? = some (.cells #[.int .i64 s.n, .int .i64 s.v, .bool s.co, .bool s.ab, .bool s.en] 82 (0, 0))) := heap_alloc_last _ _
  have G2 := hide ((g3_of (B := B) (b1 := bv) (b2 := bd) hT (.inr (.inl rfl))).trans (g3_below hw))
  have hltb := h.own.vo.lt
  have HC := hide (containsB_any (some ⟨bv, 0, none⟩) m.nv m.cv (setB g.vo u) _ ⟨h2.out.own.vo.bools, (setB_len _ _).trans hl, h.own.nv.2.1, Nat.le_trans h4 (by decide)⟩ (by omega))
  have HN := hide (fun ar nr cr r W (hb : GBox W F B m (setVo g u) bv bd) hr => note_any F B m (setVo g u) bv bd s ar nr cr r W hb hr)
  have hsz : (w.setCell ⟨bv, u, none⟩ (.bool true)).heap.size = w.heap.size := by simp
  rw [hsz] at hX
  obtain ⟨c0, c1⟩ := hcl
  unfold gsv at *
  have huI : (u : Int) < (m.nv : Int) := by omega
  clear h h1 hw hl hT hsz
  go_enter Tryz.func99, Tryz.ntmps99
  go_wp2_with fail
  refine (unhide HC).mono ?_
  rintro e w1 ⟨rfl, rfl⟩
  clear HC
  generalize ((w.setCell ⟨bv, u, none⟩ (.bool true)).alloc (.cells #[.int .i64 s.n, .int .i64 s.v, .bool s.co, .bool s.ab, .bool s.en] 82)) = W at *
  clear c0 c1
  cases z : allB (setB g.vo u)
  · have HE : Hid (ctgV g s u kind = setVo g u) := by show _ = _; unfold ctgV; rw [z]; rfl
    go_wp2_with fail
    go_end0
    rw [HE.out]
    exact ⟨rfl, ⟨m, h2.out⟩, G2.out⟩
  · have HE : Hid (ctgV g s u kind = (noteG (setVo g u) s [kind, s.n]).1) := by show _ = _; unfold ctgV; rw [z]; rfl
    have s0 := blk_cell hX.out 0 _ rfl
    have s1 := blk_cell hX.out 1 _ rfl
    have s2 := blk_cell hX.out 2 _ rfl
    have s3 := blk_cell hX.out 3 _ rfl
    have s4 := blk_cell hX.out 4 _ rfl
    have hb3 := hide ((Below.refl W.heap.size W).alloc (Nat.le_refl _) (.cells #[.int .i64 kind, .int .i64 s.n] 3))
    have HR := hide ((unhide HN) (some ⟨W.heap.size, 0, none⟩) 2 2 [kind, s.n] _ (h2.out.below hb3.out) (gi_made2 W kind s.n 3))
    go_wp2_with fail
    refine (unhide HR).mono ?_
    rintro e w2 ⟨rfl, hb2, hg2⟩
    have HB2 := hide hb2
    have HG2 := hide hg2
    clear hb2 hg2 HR HN
    go_wp2_with fail
    go_end0
    rw [HE.out]
    exact ⟨rfl, HB2.out, (G2.out.trans (g3_below hb3.out)).trans HG2.out⟩

/-- What count makes of it. -/
def ctgD (g : Gt) (s : Gs) (u kind : Int) : Gt := if allB (setB g.di u) = true then (noteG (setDi g u) s [kind, s.n]).1 else setDi g u
set_option maxRecDepth 100000 in
set_option maxHeartbeats 1600000 in
theorem countD_any (F B : Nat) (m : GA) (g : Gt) (bv bd : Nat) (s : Gs) (u : Nat) (kind : Int) (w : World) (h : GBox w F B m g bv bd) (hu : u < m.nd) :
    Calls Tryz.prog 99 #[.pointer (some ⟨B, 0, none⟩), .slice (some ⟨bd, 0, none⟩) m.nd m.cd, .int .i64 u, gsv s, .int .i64 kind] w fun e w' => e = .returned (.tuple #[]) ∧ (∃ m', GBox w' F B m' (ctgD g s u kind) bv bd) ∧ G3 w w' B bv bd := by
  have h4 := h.own.nd.2.2.2
  have hl := h.own.nd.1
  have hcl := h.own.di.cell u (by rw [hl]; exact hu)
  have hT : w.grownBy (w.setCell ⟨bd, u, none⟩ (.bool true)) (some bd) := turns_set1 _ _ _ _
  have h1 := GBox.setD h u
  have hw : Below (w.setCell ⟨bd, u, none⟩ (.bool true)).heap.size (w.setCell ⟨bd, u, none⟩ (.bool true)) ((w.setCell ⟨bd, u, none⟩ (.bool true)).alloc (.cells #[.int .i64 s.n, .int .i64 s.v, .bool s.co, .bool s.ab, .bool s.en] 82)) := (Below.refl _ _).alloc (Nat.le_refl _) _
  have h2 := hide (h1.below hw)
  have hX : Hid (((w.setCell ⟨bd, u, none⟩ (.bool true)).alloc (.cells #[.int .i64 s.n, .int .i64 s.v, .bool s.co, .bool s.ab, .bool s.en] 82)).heap[(w.setCell ⟨bd, u, none⟩ (.bool true)).heap.size]? = some (.cells #[.int .i64 s.n, .int .i64 s.v, .bool s.co, .bool s.ab, .bool s.en] 82 (0, 0))) := heap_alloc_last _ _
  have G2 := hide ((g3_of (B := B) (b1 := bv) (b2 := bd) hT (.inr (.inr rfl))).trans (g3_below hw))
  have hltb := h.own.di.lt
  have HC := hide (containsB_any (some ⟨bd, 0, none⟩) m.nd m.cd (setB g.di u) _ ⟨h2.out.own.di.bools, (setB_len _ _).trans hl, h.own.nd.2.1, Nat.le_trans h4 (by decide)⟩ (by omega))
  have HN := hide (fun ar nr cr r W (hb : GBox W F B m (setDi g u) bv bd) hr => note_any F B m (setDi g u) bv bd s ar nr cr r W hb hr)
  have hsz : (w.setCell ⟨bd, u, none⟩ (.bool true)).heap.size = w.heap.size := by simp
  rw [hsz] at hX
  obtain ⟨c0, c1⟩ := hcl
  unfold gsv at *
  have huI : (u : Int) < (m.nd : Int) := by omega
  clear h h1 hw hl hT hsz
  go_enter Tryz.func99, Tryz.ntmps99
  go_wp2_with fail
  refine (unhide HC).mono ?_
  rintro e w1 ⟨rfl, rfl⟩
  clear HC
  generalize ((w.setCell ⟨bd, u, none⟩ (.bool true)).alloc (.cells #[.int .i64 s.n, .int .i64 s.v, .bool s.co, .bool s.ab, .bool s.en] 82)) = W at *
  clear c0 c1
  cases z : allB (setB g.di u)
  · have HE : Hid (ctgD g s u kind = setDi g u) := by show _ = _; unfold ctgD; rw [z]; rfl
    go_wp2_with fail
    go_end0
    rw [HE.out]
    exact ⟨rfl, ⟨m, h2.out⟩, G2.out⟩
  · have HE : Hid (ctgD g s u kind = (noteG (setDi g u) s [kind, s.n]).1) := by show _ = _; unfold ctgD; rw [z]; rfl
    have s0 := blk_cell hX.out 0 _ rfl
    have s1 := blk_cell hX.out 1 _ rfl
    have s2 := blk_cell hX.out 2 _ rfl
    have s3 := blk_cell hX.out 3 _ rfl
    have s4 := blk_cell hX.out 4 _ rfl
    have hb3 := hide ((Below.refl W.heap.size W).alloc (Nat.le_refl _) (.cells #[.int .i64 kind, .int .i64 s.n] 3))
    have HR := hide ((unhide HN) (some ⟨W.heap.size, 0, none⟩) 2 2 [kind, s.n] _ (h2.out.below hb3.out) (gi_made2 W kind s.n 3))
    go_wp2_with fail
    refine (unhide HR).mono ?_
    rintro e w2 ⟨rfl, hb2, hg2⟩
    have HB2 := hide hb2
    have HG2 := hide hg2
    clear hb2 hg2 HR HN
    go_wp2_with fail
    go_end0
    rw [HE.out]
    exact ⟨rfl, HB2.out, (G2.out.trans (g3_below hb3.out)).trans HG2.out⟩

end Go.Proofs.YtgngpmgjoifepaaGreatDoor

namespace Go.Proofs.YtgngpmgjoifepaaGreatDoor
open Go.RowKit
attribute [local go_sem ↓] Go.wp_at_zero Go.wp_at_succ

def ga0 : GA := ⟨none, 0, 0, none, 0, 0, none, 0, 0, none, 0, 0⟩
theorem gin0 (w : World) : GIn w ga0 gt0 := ⟨⟨.inl rfl, rfl, Nat.le_refl _, by decide⟩, ⟨.inl rfl, rfl, by decide⟩, ⟨.inl rfl, rfl, Nat.le_refl _, by decide⟩, ⟨.inl rfl, rfl, Nat.le_refl _, by decide⟩⟩
/-- Lists in new memory. -/
structure GFr (F : Nat) (m : GA) : Prop where
  a : FreshA F m.a
  ak : FreshA F m.ak
  av : FreshA F m.av
  ad : FreshA F m.ad
theorem gfr0 (F : Nat) : GFr F ga0 := ⟨FreshA.nil _, FreshA.nil _, FreshA.nil _, FreshA.nil _⟩
theorem FreshA.lower {F F' : Nat} {a : Option Addr} (h : FreshA F a) (hF : F' ≤ F) : FreshA F' a := fun ad e => Nat.le_trans hF (h ad e)
theorem GFr.lower {F F' : Nat} {m : GA} (h : GFr F m) (hF : F' ≤ F) : GFr F' m := ⟨h.a.lower hF, h.ak.lower hF, h.av.lower hF, h.ad.lower hF⟩
theorem GOwn.fr {w : World} {F F' : Nat} {m : GA} {g : Gt} {bv bd : Nat} (h : GOwn w F m g bv bd) (hF : F' ≤ F) : GFr F' m :=
  ⟨h.fa.lower hF, h.fk.lower hF, fun ad e => by rw [h.av] at e; cases e; exact Nat.le_trans hF h.fv, fun ad e => by rw [h.ad] at e; cases e; exact Nat.le_trans hF h.fd⟩
/-- The gateway and the error that a call answers. -/
def GAns (w : World) (r : Gt × Int) (e : Ending) (w' : World) : Prop := (∃ m, e = .returned (.tuple #[gtv r.1 m, .int .i64 r.2]) ∧ GIn w' m r.1 ∧ GFr w.heap.size m) ∧ Below w.heap.size w w'
theorem GOwn.gin {w : World} {F : Nat} {m : GA} {g : Gt} {bv bd : Nat} (h : GOwn w F m g bv bd) : GIn w m g :=
  ⟨h.ws, h.ks, ⟨by rw [h.av]; exact h.vo.bools, h.nv.1, h.nv.2.1, Nat.le_trans h.nv.2.2.2 (by decide)⟩, ⟨by rw [h.ad]; exact h.di.bools, h.nd.1, h.nd.2.1, Nat.le_trans h.nd.2.2.2 (by decide)⟩⟩
theorem GOwn.turns {w w' : World} {F B : Nat} {m : GA} {g : Gt} {bv bd : Nat} (h : GOwn w F m g bv bd) (hg : w.grownBy w' (some B)) (h1 : Off B m.a) (h2 : Off B m.ak) (h3 : bv ≠ B) (h4 : bd ≠ B) : GOwn w' F m g bv bd :=
  ⟨h.ws.turns hg h1, h.ks.turns hg h2, h.av, h.ad, h.vo.turns hg h3, h.di.turns hg h4, h.nv, h.nd, h.fv, h.fd, h.ne, h.wv, h.wd, h.kv, h.kd, h.fa, h.fk⟩
theorem off_low {F B : Nat} {a : Option Addr} (h : FreshA F a) (hB : B < F) : Off B a := off_fresh h hB
/-- A block below all that is a gateway's own turns. -/
theorem GOwn.low {w w' : World} {F B : Nat} {m : GA} {g : Gt} {bv bd : Nat} (h : GOwn w F m g bv bd) (hg : w.grownBy w' (some B)) (hB : B < F) : GOwn w' F m g bv bd :=
  h.turns hg (off_low h.fa hB) (off_low h.fk hB) (by have := h.fv; omega) (by have := h.fd; omega)
/-- Boxed anew. -/
theorem GOwn.boxed {w5 : World} {k : GA} {g : Gt} {bv bd F : Nat} (ho : GOwn w5 F k g bv bd) (hf : F ≤ w5.heap.size) (ha : Off w5.heap.size k.a ∧ Off w5.heap.size k.ak) : GBox (w5.alloc (.cells #[.slice k.a k.n k.c, .int .i64 g.fu, .bool g.up, .int .i64 g.t.r.v, .slice k.ak k.nk k.ck, .int .i64 g.t.r.t, .int .i64 g.t.ver, .slice k.av k.nv k.cv, .slice k.ad k.nd k.cd] 68)) F w5.heap.size k g bv bd :=
  ⟨heap_alloc_last _ _, ho.below (below_new (Below.refl w5.heap.size w5) _), hf, Nat.ne_of_gt ho.vo.lt, Nat.ne_of_gt ho.di.lt, ha.1, ha.2⟩
theorem gt_pow {W : World} {B : Nat} {g : Gt} {m : GA} {f : Int} {up : Bool} (h : W.heap[B]? = some (gtO g m)) :
    ((W.setCell ⟨B, 2, none⟩ (.bool up)).setCell ⟨B, 1, none⟩ (.int .i64 f)).heap[B]? = some (gtO ⟨g.ws, f, up, g.t, g.vo, g.di⟩ m) := by
  unfold gtO at *
  simp only [World.setCell, Array.getElem?_modify]
  simp [h]
theorem GBox.power {w : World} {F B : Nat} {m : GA} {g : Gt} {bv bd : Nat} (h : GBox w F B m g bv bd) (f : Int) (up : Bool) : GBox ((w.setCell ⟨B, 2, none⟩ (.bool up)).setCell ⟨B, 1, none⟩ (.int .i64 f)) F B m ⟨g.ws, f, up, g.t, g.vo, g.di⟩ bv bd := by
  have hT : w.grownBy ((w.setCell ⟨B, 2, none⟩ (.bool up)).setCell ⟨B, 1, none⟩ (.int .i64 f)) (some B) := turns_set (turns_set (World.grownBy.refl _ _) _ _) _ _
  have o := h.own.turns hT h.oa h.ok (Ne.symm h.nv) (Ne.symm h.nd)
  exact ⟨gt_pow h.box, ⟨o.ws, o.ks, o.av, o.ad, o.vo, o.di, o.nv, o.nd, o.fv, o.fd, o.ne, o.wv, o.wd, o.kv, o.kd, o.fa, o.fk⟩, h.fB, h.nv, h.nd, h.oa, h.ok⟩
/-- The sizes of a gateway that was checked. -/
theorem GIn.sizes {w : World} {m : GA} {g : Gt} (h : GIn w m g) (h0 : gtE g = 0) : m.n ≤ 192 ∧ m.nk ≤ 1000 ∧ (0 < m.nv ∧ m.nv ≤ 4) ∧ (0 < m.nd ∧ m.nd ≤ 4) := by
  obtain ⟨h1, h2, h3, h4⟩ := gtE_ok h0
  have a1 := (lchk_parts h1).2.2.1
  have a2 : g.t.r.e = 0 := by
    cases z : inR g.t.ver 0 1000
    · rw [trE_bad z] at h4; cases h4
    · rw [trE_go z] at h4; exact h4
  rw [h.ws.len] at a1
  rw [h.vo.len] at h2 h3
  rw [h.di.len] at h3
  refine ⟨a1, ?_, by omega, by omega⟩
  rw [← h.ks.len]
  cases z1 : inR g.t.r.v 1 1000
  · unfold Rt.e at a2; rw [rootE_1 z1] at a2; cases a2
  cases z2 : inR g.t.r.ks.length 1 6
  · unfold Rt.e at a2; rw [rootE_2 z1 z2] at a2; cases a2
  simp [inR] at z2
  omega

end Go.Proofs.YtgngpmgjoifepaaGreatDoor
