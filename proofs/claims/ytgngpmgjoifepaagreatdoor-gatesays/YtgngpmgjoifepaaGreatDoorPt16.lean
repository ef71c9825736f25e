/- The contract of gate.count, of either list. What a call that answers a gateway and an error leaves ('GAns'); the contract of gate.Boot. -/
import Derived.Test.YtgngpmgjoifepaaGreatDoorPt15
import Derived.Test.YtgngpmgjoifepaaGreatDoorPt13
namespace Go.Proofs.YtgngpmgjoifepaaGreatDoor
open Go.RowKit
attribute [local go_sem ↓] Go.wp_at_zero Go.wp_at_succ

def setVo (g : Gt) (u : Int) : Gt := ⟨g.ws, g.fu, g.up, g.t, setB g.vo u, g.di⟩
def setDi (g : Gt) (u : Int) : Gt := ⟨g.ws, g.fu, g.up, g.t, g.vo, setB g.di u⟩
theorem setB_len (l : List Bool) (u : Int) : (setB l u).length = l.length := by unfold setB; simp
theorem OwnB.setB {w : World} {b : Nat} {bs : List Bool} (h : OwnB w b bs) (u : Nat) : OwnB (w.setCell ⟨b, u, none⟩ (.bool true)) b (setB bs u) := by
  have := h.set u true
  unfold Go.Proofs.YtgngpmgjoifepaaGreatDoor.setB
  rwa [Int.toNat_natCast]
theorem GBox.setV {w : World} {F B : Nat} {m : GA} {g : Gt} {bv bd : Nat} (h : GBox w F B m g bv bd) (u : Nat) : GBox (w.setCell ⟨bv, u, none⟩ (.bool true)) F B m (setVo g u) bv bd := by
  have hT : w.grownBy (w.setCell ⟨bv, u, none⟩ (.bool true)) (some bv) := turns_set1 _ _ _ _
  have o := h.own
  exact ⟨blk_turns h.box hT h.nv, ⟨o.ws.turns hT o.wv, o.ks.turns hT o.kv, o.av, o.ad, o.vo.setB u, o.di.turns hT (Ne.symm o.ne), ⟨(setB_len _ _).trans o.nv.1, o.nv.2⟩, o.nd, o.fv, o.fd, o.ne, o.wv, o.wd, o.kv, o.kd, o.fa, o.fk⟩, h.fB, h.nv, h.nd, h.oa, h.ok⟩
theorem GBox.setD {w : World} {F B : Nat} {m : GA} {g : Gt} {bv bd : Nat} (h : GBox w F B m g bv bd) (u : Nat) : GBox (w.setCell ⟨bd, u, none⟩ (.bool true)) F B m (setDi g u) bv bd := by
  have hT : w.grownBy (w.setCell ⟨bd, u, none⟩ (.bool true)) (some bd) := turns_set1 _ _ _ _
  have o := h.own
  exact ⟨blk_turns h.box hT h.nd, ⟨o.ws.turns hT o.wd, o.ks.turns hT o.kd, o.av, o.ad, o.vo.turns hT o.ne, o.di.setB u, o.nv, ⟨(setB_len _ _).trans o.nd.1, o.nd.2⟩, o.fv, o.fd, o.ne, o.wv, o.wd, o.kv, o.kd, o.fa, o.fk⟩, h.fB, h.nv, h.nd, h.oa, h.ok⟩
theorem OwnB.cell {w : World} {b : Nat} {bs : List Bool} (h : OwnB w b bs) (i : Nat) (hi : i < bs.length) : w.cell? ⟨b, i, none⟩ = some (.bool (bs.getD i false)) ∧ w.frozen? ⟨b, i, none⟩ = false := by
  obtain ⟨cur, h1, h2, h3⟩ := h
  refine ⟨blk_cell h1 i _ ?_, blk_free h1 i⟩
  have := bvals_get bs i hi
  rw [← h2, List.getElem?_take, if_pos hi] at this
  simpa using this

theorem gi_made2 (w : World) (x y : Int) (t : TypeId) : BI (w.alloc (.cells #[.int .i64 x, .int .i64 y] t)) (some ⟨w.heap.size, 0, none⟩) 2 [x, y] :=
  ⟨isInts2 (blk_cell (heap_alloc_last _ _) 0 _ rfl) (blk_cell (heap_alloc_last _ _) 1 _ rfl), rfl, by decide⟩

def ctgV (g : Gt) (s : Gs) (u kind : Int) : Gt := if allB (setB g.vo u) = true then (noteG (setVo g u) s [kind, s.n]).1 else setVo g u
set_option maxRecDepth 100000 in
set_option maxHeartbeats 1600000 in
theorem countV_any (F B : Nat) (m : GA) (g : Gt) (bv bd : Nat) (s : Gs) (u : Nat) (kind : Int) (w : World) (h : GBox w F B m g bv bd) (hu : u < m.nv) :
    Calls Tryz.prog 99 #[.pointer (some ⟨B, 0, none⟩), .slice (some ⟨bv, 0, none⟩) m.nv m.cv, .int .i64 u, gsv s, .int .i64 kind] w fun e w' => e = .returned (.tuple #[]) ∧ (∃ m', GBox w' F B m' (ctgV g s u kind) bv bd) ∧ G3 w w' B bv bd := by
  have h4 := h.own.nv.2.2.2
  have hl := h.own.nv.1
  have hcl := h.own.vo.cell u (by rw [hl]; exact hu)
  have hT : w.grownBy (w.setCell ⟨bv, u, none⟩ (.bool true)) (some bv) := turns_set1 _ _ _ _
  have h1 := GBox.setV h u
  have hw : Below (w.setCell ⟨bv, u, none⟩ (.bool true)).heap.size (w.setCell ⟨bv, u, none⟩ (.bool true)) ((w.setCell ⟨bv, u, none⟩ (.bool true)).alloc (.cells #[.int .i64 s.n, .int .i64 s.v, .bool s.co, .bool s.ab, .bool s.en] 82)) := (Below.refl _ _).alloc (Nat.le_refl _) _
  have h2 := hide (h1.below hw)
  have hX : Hid (((w.setCell ⟨bv, u, none⟩ (.bool true)).alloc (.cells #[.int .i64 s.n, .int .i64 s.v, .bool s.co, .bool s.ab, .bool s.en] 82)).heap[(w.setCell ⟨bv, u, none⟩ (.bool true)).heap.size]? = some (.cells #[.int .i64 s.n, .int .i64 s.v, .bool s.co, .bool s.ab, .bool s.en] 82 (0, 0))) := heap_alloc_last _ _
  have G2 := hide ((g3_of (B := B) (b1 := bv) (b2 := bd) hT (.inr (.inl rfl))).trans (g3_below hw))
  have hltb := h.own.vo.lt
  have HC := hide (containsB_any (some ⟨bv, 0, none⟩) m.nv m.cv (setB g.vo u) _ ⟨h2.out.own.vo.bools, (setB_len _ _).trans hl, h.own.nv.2.1, Nat.le_trans h4 (by decide)⟩ (by omega))
  have HN := hide (fun ar nr cr r W (hb : GBox W F B m (setVo g u) bv bd) hr => note_any F B m (setVo g u) bv bd s ar nr cr r W hb hr)
  have hsz : (w.setCell ⟨bv, u, none⟩ (.bool true)).heap.size = w.heap.size := by simp
  rw [hsz] at hX
  obtain ⟨c0, c1⟩ := hcl
  unfold gsv at *
  have huI : (u : Int) < (m.nv : Int) := by omega
  clear h h1 hw hl hT hsz
  go_enter Tryz.func99, Tryz.ntmps99
  go_wp2_with fail
  refine (unhide HC).mono ?_
  rintro e w1 ⟨rfl, rfl⟩
  clear HC
  generalize ((w.setCell ⟨bv, u, none⟩ (.bool true)).alloc (.cells #[.int .i64 s.n, .int .i64 s.v, .bool s.co, .bool s.ab, .bool s.en] 82)) = W at *
  clear c0 c1
  cases z : allB (setB g.vo u)
  {
  have HE : Hid (ctgV g s u kind = setVo g u) := by show _ = _; unfold ctgV; rw [z]; rfl
  go_wp2_with fail
  go_end0
  rw [HE.out]
  exact ⟨rfl, ⟨m, h2.out⟩, G2.out⟩
  }
  {
  have HE : Hid (ctgV g s u kind = (noteG (setVo g u) s [kind, s.n]).1) := by show _ = _; unfold ctgV; rw [z]; rfl
  obtain ⟨s0, s1, s2, s3, s4⟩ := cl5 hX.out
  have hb3 := hide ((Below.refl W.heap.size W).alloc (Nat.le_refl _) (.cells #[.int .i64 kind, .int .i64 s.n] 3))
  have HR := hide ((unhide HN) (some ⟨W.heap.size, 0, none⟩) 2 2 [kind, s.n] _ (h2.out.below hb3.out) (gi_made2 W kind s.n 3))
  go_wp2_with fail
  refine (unhide HR).mono ?_
  rintro e w2 ⟨rfl, hb2, hg2⟩
  have HB2 := hide hb2
  have HG2 := hide hg2
  clear hb2 hg2 HR HN
  go_wp2_with fail
  go_end0
  rw [HE.out]
  exact ⟨rfl, HB2.out, (G2.out.trans (g3_below hb3.out)).trans HG2.out⟩

  }
def ctgD (g : Gt) (s : Gs) (u kind : Int) : Gt := if allB (setB g.di u) = true then (noteG (setDi g u) s [kind, s.n]).1 else setDi g u
set_option maxRecDepth 100000 in
set_option maxHeartbeats 1600000 in
theorem countD_any (F B : Nat) (m : GA) (g : Gt) (bv bd : Nat) (s : Gs) (u : Nat) (kind : Int) (w : World) (h : GBox w F B m g bv bd) (hu : u < m.nd) :
    Calls Tryz.prog 99 #[.pointer (some ⟨B, 0, none⟩), .slice (some ⟨bd, 0, none⟩) m.nd m.cd, .int .i64 u, gsv s, .int .i64 kind] w fun e w' => e = .returned (.tuple #[]) ∧ (∃ m', GBox w' F B m' (ctgD g s u kind) bv bd) ∧ G3 w w' B bv bd := by
  have h4 := h.own.nd.2.2.2
  have hl := h.own.nd.1
  have hcl := h.own.di.cell u (by rw [hl]; exact hu)
  have hT : w.grownBy (w.setCell ⟨bd, u, none⟩ (.bool true)) (some bd) := turns_set1 _ _ _ _
  have h1 := GBox.setD h u
  have hw : Below (w.setCell ⟨bd, u, none⟩ (.bool true)).heap.size (w.setCell ⟨bd, u, none⟩ (.bool true)) ((w.setCell ⟨bd, u, none⟩ (.bool true)).alloc (.cells #[.int .i64 s.n, .int .i64 s.v, .bool s.co, .bool s.ab, .bool s.en] 82)) := (Below.refl _ _).alloc (Nat.le_refl _) _
  have h2 := hide (h1.below hw)
  have hX : Hid (((w.setCell ⟨bd, u, none⟩ (.bool true)).alloc (.cells #[.int .i64 s.n, .int .i64 s.v, .bool s.co, .bool s.ab, .bool s.en] 82)).heap[(w.setCell ⟨bd, u, none⟩ (.bool true)).heap.size]? = some (.cells #[.int .i64 s.n, .int .i64 s.v, .bool s.co, .bool s.ab, .bool s.en] 82 (0, 0))) := heap_alloc_last _ _
  have G2 := hide ((g3_of (B := B) (b1 := bv) (b2 := bd) hT (.inr (.inr rfl))).trans (g3_below hw))
  have hltb := h.own.di.lt
  have HC := hide (containsB_any (some ⟨bd, 0, none⟩) m.nd m.cd (setB g.di u) _ ⟨h2.out.own.di.bools, (setB_len _ _).trans hl, h.own.nd.2.1, Nat.le_trans h4 (by decide)⟩ (by omega))
  have HN := hide (fun ar nr cr r W (hb : GBox W F B m (setDi g u) bv bd) hr => note_any F B m (setDi g u) bv bd s ar nr cr r W hb hr)
  have hsz : (w.setCell ⟨bd, u, none⟩ (.bool true)).heap.size = w.heap.size := by simp
  rw [hsz] at hX
  obtain ⟨c0, c1⟩ := hcl
  unfold gsv at *
  have huI : (u : Int) < (m.nd : Int) := by omega
  clear h h1 hw hl hT hsz
  go_enter Tryz.func99, Tryz.ntmps99
  go_wp2_with fail
  refine (unhide HC).mono ?_
  rintro e w1 ⟨rfl, rfl⟩
  clear HC
  generalize ((w.setCell ⟨bd, u, none⟩ (.bool true)).alloc (.cells #[.int .i64 s.n, .int .i64 s.v, .bool s.co, .bool s.ab, .bool s.en] 82)) = W at *
  clear c0 c1
  cases z : allB (setB g.di u)
  {
  have HE : Hid (ctgD g s u kind = setDi g u) := by show _ = _; unfold ctgD; rw [z]; rfl
  go_wp2_with fail
  go_end0
  rw [HE.out]
  exact ⟨rfl, ⟨m, h2.out⟩, G2.out⟩
  }
  {
  have HE : Hid (ctgD g s u kind = (noteG (setDi g u) s [kind, s.n]).1) := by show _ = _; unfold ctgD; rw [z]; rfl
  obtain ⟨s0, s1, s2, s3, s4⟩ := cl5 hX.out
  have hb3 := hide ((Below.refl W.heap.size W).alloc (Nat.le_refl _) (.cells #[.int .i64 kind, .int .i64 s.n] 3))
  have HR := hide ((unhide HN) (some ⟨W.heap.size, 0, none⟩) 2 2 [kind, s.n] _ (h2.out.below hb3.out) (gi_made2 W kind s.n 3))
  go_wp2_with fail
  refine (unhide HR).mono ?_
  rintro e w2 ⟨rfl, hb2, hg2⟩
  have HB2 := hide hb2
  have HG2 := hide hg2
  clear hb2 hg2 HR HN
  go_wp2_with fail
  go_end0
  rw [HE.out]
  exact ⟨rfl, HB2.out, (G2.out.trans (g3_below hb3.out)).trans HG2.out⟩

  }
end Go.Proofs.YtgngpmgjoifepaaGreatDoor

namespace Go.Proofs.YtgngpmgjoifepaaGreatDoor
open Go.RowKit
attribute [local go_sem ↓] Go.wp_at_zero Go.wp_at_succ

def ga0 : GA := ⟨none, 0, 0, none, 0, 0, none, 0, 0, none, 0, 0⟩
theorem gin0 (w : World) : GIn w ga0 gt0 := ⟨⟨.inl rfl, rfl, Nat.le_refl _, by decide⟩, ⟨.inl rfl, rfl, by decide⟩, ⟨.inl rfl, rfl, Nat.le_refl _, by decide⟩, ⟨.inl rfl, rfl, Nat.le_refl _, by decide⟩⟩
structure GFr (F : Nat) (m : GA) : Prop where
  a : FreshA F m.a
  ak : FreshA F m.ak
  av : FreshA F m.av
  ad : FreshA F m.ad
theorem gfr0 (F : Nat) : GFr F ga0 := ⟨FreshA.nil _, FreshA.nil _, FreshA.nil _, FreshA.nil _⟩
theorem FreshA.lower {F F' : Nat} {a : Option Addr} (h : FreshA F a) (hF : F' ≤ F) : FreshA F' a := fun ad e => Nat.le_trans hF (h ad e)
theorem GFr.lower {F F' : Nat} {m : GA} (h : GFr F m) (hF : F' ≤ F) : GFr F' m := ⟨h.a.lower hF, h.ak.lower hF, h.av.lower hF, h.ad.lower hF⟩
theorem GOwn.fr {w : World} {F F' : Nat} {m : GA} {g : Gt} {bv bd : Nat} (h : GOwn w F m g bv bd) (hF : F' ≤ F) : GFr F' m :=
  ⟨h.fa.lower hF, h.fk.lower hF, fun ad e => by rw [h.av] at e; cases e; exact Nat.le_trans hF h.fv, fun ad e => by rw [h.ad] at e; cases e; exact Nat.le_trans hF h.fd⟩
def GAns (w : World) (r : Gt × Int) (e : Ending) (w' : World) : Prop := (∃ m, e = .returned (.tuple #[gtv r.1 m, .int .i64 r.2]) ∧ GIn w' m r.1 ∧ GFr w.heap.size m) ∧ Below w.heap.size w w'
theorem GOwn.gin {w : World} {F : Nat} {m : GA} {g : Gt} {bv bd : Nat} (h : GOwn w F m g bv bd) : GIn w m g :=
  ⟨h.ws, h.ks, ⟨by rw [h.av]; exact h.vo.bools, h.nv.1, h.nv.2.1, Nat.le_trans h.nv.2.2.2 (by decide)⟩, ⟨by rw [h.ad]; exact h.di.bools, h.nd.1, h.nd.2.1, Nat.le_trans h.nd.2.2.2 (by decide)⟩⟩
theorem GOwn.turns {w w' : World} {F B : Nat} {m : GA} {g : Gt} {bv bd : Nat} (h : GOwn w F m g bv bd) (hg : w.grownBy w' (some B)) (h1 : Off B m.a) (h2 : Off B m.ak) (h3 : bv ≠ B) (h4 : bd ≠ B) : GOwn w' F m g bv bd :=
  ⟨h.ws.turns hg h1, h.ks.turns hg h2, h.av, h.ad, h.vo.turns hg h3, h.di.turns hg h4, h.nv, h.nd, h.fv, h.fd, h.ne, h.wv, h.wd, h.kv, h.kd, h.fa, h.fk⟩
theorem off_low {F B : Nat} {a : Option Addr} (h : FreshA F a) (hB : B < F) : Off B a := off_fresh h hB
theorem GOwn.low {w w' : World} {F B : Nat} {m : GA} {g : Gt} {bv bd : Nat} (h : GOwn w F m g bv bd) (hg : w.grownBy w' (some B)) (hB : B < F) : GOwn w' F m g bv bd :=
  h.turns hg (off_low h.fa hB) (off_low h.fk hB) (by have := h.fv; omega) (by have := h.fd; omega)
theorem GOwn.boxed {w5 : World} {k : GA} {g : Gt} {bv bd F : Nat} (ho : GOwn w5 F k g bv bd) (hf : F ≤ w5.heap.size) (ha : Off w5.heap.size k.a ∧ Off w5.heap.size k.ak) : GBox (w5.alloc (.cells #[.slice k.a k.n k.c, .int .i64 g.fu, .bool g.up, .int .i64 g.t.r.v, .slice k.ak k.nk k.ck, .int .i64 g.t.r.t, .int .i64 g.t.ver, .slice k.av k.nv k.cv, .slice k.ad k.nd k.cd] 68)) F w5.heap.size k g bv bd :=
  ⟨heap_alloc_last _ _, ho.below (below_new (Below.refl w5.heap.size w5) _), hf, Nat.ne_of_gt ho.vo.lt, Nat.ne_of_gt ho.di.lt, ha.1, ha.2⟩
theorem gt_pow {W : World} {B : Nat} {g : Gt} {m : GA} {f : Int} {up : Bool} (h : W.heap[B]? = some (gtO g m)) :
    ((W.setCell ⟨B, 2, none⟩ (.bool up)).setCell ⟨B, 1, none⟩ (.int .i64 f)).heap[B]? = some (gtO ⟨g.ws, f, up, g.t, g.vo, g.di⟩ m) := by
  unfold gtO at *
  simp only [World.setCell, Array.getElem?_modify]
  simp [h]
theorem GBox.power {w : World} {F B : Nat} {m : GA} {g : Gt} {bv bd : Nat} (h : GBox w F B m g bv bd) (f : Int) (up : Bool) : GBox ((w.setCell ⟨B, 2, none⟩ (.bool up)).setCell ⟨B, 1, none⟩ (.int .i64 f)) F B m ⟨g.ws, f, up, g.t, g.vo, g.di⟩ bv bd := by
  have hT : w.grownBy ((w.setCell ⟨B, 2, none⟩ (.bool up)).setCell ⟨B, 1, none⟩ (.int .i64 f)) (some B) := turns_set (turns_set (World.grownBy.refl _ _) _ _) _ _
  have o := h.own.turns hT h.oa h.ok (Ne.symm h.nv) (Ne.symm h.nd)
  exact ⟨gt_pow h.box, ⟨o.ws, o.ks, o.av, o.ad, o.vo, o.di, o.nv, o.nd, o.fv, o.fd, o.ne, o.wv, o.wd, o.kv, o.kd, o.fa, o.fk⟩, h.fB, h.nv, h.nd, h.oa, h.ok⟩
theorem GIn.sizes {w : World} {m : GA} {g : Gt} (h : GIn w m g) (h0 : gtE g = 0) : m.n ≤ 192 ∧ m.nk ≤ 1000 ∧ (0 < m.nv ∧ m.nv ≤ 4) ∧ (0 < m.nd ∧ m.nd ≤ 4) := by
  obtain ⟨h1, h2, h3, h4⟩ := gtE_ok h0
  have a1 := (lchk_parts h1).2.2.1
  have a2 : g.t.r.e = 0 := by
    cases z : inR g.t.ver 0 1000
    { rw [trE_bad z] at h4; cases h4 }
    { rw [trE_go z] at h4; exact h4 }
  rw [h.ws.len] at a1
  rw [h.vo.len] at h2 h3
  rw [h.di.len] at h3
  refine ⟨a1, ?_, by omega, by omega⟩
  rw [← h.ks.len]
  cases z1 : inR g.t.r.v 1 1000
  { unfold Rt.e at a2; rw [rootE_1 z1] at a2; cases a2 }
  cases z2 : inR g.t.r.ks.length 1 6
  { unfold Rt.e at a2; rw [rootE_2 z1 z2] at a2; cases a2 }
  simp [inR] at z2
  omega

theorem gBootS_e {g : Gt} (h : gtE g ≠ 0) : gBootS g = (gt0, gtE g) := by unfold gBootS; rw [if_pos h]
theorem gBootS_0 {g : Gt} (h : gtE g = 0) : gBootS g = (forgG ⟨g.ws, -1, true, g.t, g.vo, g.di⟩, 0) := by unfold gBootS; rw [if_neg (by simpa using h)]; rfl

set_option maxRecDepth 100000 in
set_option maxHeartbeats 3200000 in
theorem gateBoot_any (g : Gt) (m : GA) (w : World) (h : GIn w m g) :
    Calls Tryz.prog 32 #[gtv g m] w (GAns w (gBootS g)) := by
  have E1 := fun h => gBootS_e (g := g) h
  have E0 := fun h => gBootS_0 (g := g) h
  have hw : Below w.heap.size w ((w.alloc (.cells #[.slice m.a m.n m.c, .int .i64 g.fu, .bool g.up, .int .i64 g.t.r.v, .slice m.ak m.nk m.ck, .int .i64 g.t.r.t, .int .i64 g.t.ver, .slice m.av m.nv m.cv, .slice m.ad m.nd m.cd] 68)).alloc (.cells #[.slice none 0 0, .int .i64 0, .bool false, .int .i64 0, .slice none 0 0, .int .i64 0, .int .i64 0, .slice none 0 0, .slice none 0 0] 68)) := ((Below.refl _ _).alloc (Nat.le_refl _) _).alloc (by simp) _
  have b1 : Hid (((w.alloc (.cells #[.slice m.a m.n m.c, .int .i64 g.fu, .bool g.up, .int .i64 g.t.r.v, .slice m.ak m.nk m.ck, .int .i64 g.t.r.t, .int .i64 g.t.ver, .slice m.av m.nv m.cv, .slice m.ad m.nd m.cd] 68)).alloc (.cells #[.slice none 0 0, .int .i64 0, .bool false, .int .i64 0, .slice none 0 0, .int .i64 0, .int .i64 0, .slice none 0 0, .slice none 0 0] 68)).heap[w.heap.size + 1]? = some (.cells #[.slice none 0 0, .int .i64 0, .bool false, .int .i64 0, .slice none 0 0, .int .i64 0, .int .i64 0, .slice none 0 0, .slice none 0 0] 68 (0, 0))) := by have := heap_alloc_last (w.alloc (.cells #[.slice m.a m.n m.c, .int .i64 g.fu, .bool g.up, .int .i64 g.t.r.v, .slice m.ak m.nk m.ck, .int .i64 g.t.r.t, .int .i64 g.t.ver, .slice m.av m.nv m.cv, .slice m.ad m.nd m.cd] 68)) (.cells #[.slice none 0 0, .int .i64 0, .bool false, .int .i64 0, .slice none 0 0, .int .i64 0, .int .i64 0, .slice none 0 0, .slice none 0 0] 68); rw [show (w.alloc (.cells #[.slice m.a m.n m.c, .int .i64 g.fu, .bool g.up, .int .i64 g.t.r.v, .slice m.ak m.nk m.ck, .int .i64 g.t.r.t, .int .i64 g.t.ver, .slice m.av m.nv m.cv, .slice m.ad m.nd m.cd] 68)).heap.size = w.heap.size + 1 from by simp] at this; exact this
  have b0 : Hid (((w.alloc (.cells #[.slice m.a m.n m.c, .int .i64 g.fu, .bool g.up, .int .i64 g.t.r.v, .slice m.ak m.nk m.ck, .int .i64 g.t.r.t, .int .i64 g.t.ver, .slice m.av m.nv m.cv, .slice m.ad m.nd m.cd] 68)).alloc (.cells #[.slice none 0 0, .int .i64 0, .bool false, .int .i64 0, .slice none 0 0, .int .i64 0, .int .i64 0, .slice none 0 0, .slice none 0 0] 68)).heap[w.heap.size]? = some (.cells #[.slice m.a m.n m.c, .int .i64 g.fu, .bool g.up, .int .i64 g.t.r.v, .slice m.ak m.nk m.ck, .int .i64 g.t.r.t, .int .i64 g.t.ver, .slice m.av m.nv m.cv, .slice m.ad m.nd m.cd] 68 (0, 0))) := blk_below (heap_alloc_last w (.cells #[.slice m.a m.n m.c, .int .i64 g.fu, .bool g.up, .int .i64 g.t.r.v, .slice m.ak m.nk m.ck, .int .i64 g.t.r.t, .int .i64 g.t.ver, .slice m.av m.nv m.cv, .slice m.ad m.nd m.cd] 68)) (below_new (Below.refl _ _) _)
  have HC := hide (fun W (hW : Below w.heap.size w W) => gateCheck_any g m W (h.below hW))
  have HP := hide h
  have hx : w.heap.size ≤ w.heap.size + 1 := by omega
  clear h
  unfold gtv at HC
  unfold gtv
  go_enter Tryz.func32, Tryz.ntmps32
  go_wp2_with fail
  generalize ((w.alloc (.cells #[.slice m.a m.n m.c, .int .i64 g.fu, .bool g.up, .int .i64 g.t.r.v, .slice m.ak m.nk m.ck, .int .i64 g.t.r.t, .int .i64 g.t.ver, .slice m.av m.nv m.cv, .slice m.ad m.nd m.cd] 68)).alloc (.cells #[.slice none 0 0, .int .i64 0, .bool false, .int .i64 0, .slice none 0 0, .int .i64 0, .int .i64 0, .slice none 0 0, .slice none 0 0] 68)) = W at *
  refine (unhide HC _ hw).mono ?_
  rintro e w1 ⟨rfl, hb⟩
  replace b0 := hide (blk_below b0.out hb)
  replace b1 := hide (blk_below b1.out hb)
  replace hw := hw.trans (hb.mono hw.size)
  clear hb HC
  by_cases z1 : gtE g = 0
  rotate_left
  {
  have HE := hide (E1 z1)
  have d1 : (gtE g != 0) = true := by simpa using z1
  obtain ⟨y0, y1, y2, y3, y4, y5, y6, y7, y8⟩ := cl9 b1.out
  obtain ⟨f0, f1, f2, f3, f4, f5, f6, f7, f8⟩ := fr9 b1.out
  clear z1 E1 E0
  generalize gtE g = q at *
  go_wp2_with fail
  refine bodyPost_ret (v := .tuple #[gtv gt0 ga0, .int .i64 q]) (by simp [results, Tryz.results32, go_sem, gtv, gt0, ga0, y0, y1, y2, y3, y4, y5, y6, y7, y8]) rfl ?_
  rw [HE.out]
  exact ⟨⟨ga0, rfl, gin0 _, gfr0 _⟩, turns_below hw (turns_set (turns_set (turns_set (turns_set (turns_set (turns_set (turns_set (turns_set (turns_set (World.grownBy.refl w1 (some (w.heap.size + 1))) 0 (.slice none 0 0)) 1 (.int .i64 0)) 2 (.bool false)) 3 (.int .i64 0)) 4 (.slice none 0 0)) 5 (.int .i64 0)) 6 (.int .i64 0)) 7 (.slice none 0 0)) 8 (.slice none 0 0)) hx hw.size⟩
  }
  have HE := hide (E0 z1)
  obtain ⟨hlw, hlk, hlv, hld⟩ := HP.out.sizes z1
  rw [z1]
  have HT := hide (fun W (hW : Below w.heap.size w W) => gateTwin_any g m W (HP.out.below hW) hlw hlk hlv hld)
  unfold gtv at HT
  clear z1 E0 E1 hlw hlk hlv hld
  obtain ⟨x0, x1, x2, x3, x4, x5, x6, x7, x8⟩ := cl9 b0.out
  go_wp2_with fail
  have hF0 := hw.size
  refine (unhide HT _ hw).mono ?_
  rintro e w5 ⟨⟨k, bv, bd, rfl, ho, hoff⟩, hb5⟩
  have hlt := blk_lt b1.out
  replace b1 := hide (blk_below (blk_below b1.out hb5) (below_new (Below.refl w5.heap.size w5) (.cells #[.slice k.a k.n k.c, .int .i64 g.fu, .bool g.up, .int .i64 g.t.r.v, .slice k.ak k.nk k.ck, .int .i64 g.t.r.t, .int .i64 g.t.ver, .slice k.av k.nv k.cv, .slice k.ad k.nd k.cd] 68)))
  have hbx := hide (ho.boxed hb5.size (hoff _ (.inr (Nat.le_refl _))))
  have hw5 : Below w1.heap.size w1 (w5.alloc (.cells #[.slice k.a k.n k.c, .int .i64 g.fu, .bool g.up, .int .i64 g.t.r.v, .slice k.ak k.nk k.ck, .int .i64 g.t.r.t, .int .i64 g.t.ver, .slice k.av k.nv k.cv, .slice k.ad k.nd k.cd] 68)) := below_new hb5 _
  have hB := hb5.size
  clear HT ho hoff hb5 b0 x0 x1 x2 x3 x4 x5 x6 x7 x8
  unfold gtv
  go_upto_region 5 with fail
  generalize (w5.alloc (.cells #[.slice k.a k.n k.c, .int .i64 g.fu, .bool g.up, .int .i64 g.t.r.v, .slice k.ak k.nk k.ck, .int .i64 g.t.r.t, .int .i64 g.t.ver, .slice k.av k.nv k.cv, .slice k.ad k.nd k.cd] 68)) = W5 at *
  generalize w5.heap.size = B at *
  have bB := hide hbx.out.box
  unfold gtO at bB
  have x1 := blk_cell bB.out 1 _ rfl
  have x2 := blk_cell bB.out 2 _ rfl
  have f1 := blk_free bB.out 1
  have f2 := blk_free bB.out 2
  have hT : W5.grownBy ((W5.setCell ⟨B, 2, none⟩ (.bool true)).setCell ⟨B, 1, none⟩ (.int .i64 (-1))) (some B) := turns_set (turns_set (World.grownBy.refl _ _) _ _) _ _
  have hb6 := hide (hbx.out.power (-1) true)
  have HF := hide (forget_any _ _ _ _ _ _ _ hb6.out)
  go_wp2_with fail
  refine (unhide HF).mono ?_
  rintro e w6 ⟨rfl, hb7, hg7⟩
  have g7 := (g3_of (B := B) (b1 := bv) (b2 := bd) hT (.inl rfl)).trans hg7
  have hb8 := g7.bel hw5 hB hb7.own.fv hb7.own.fd hw5.size
  replace b1 := hide (g7.blk b1.out (by omega) (by have := hb7.own.fv; omega) (by have := hb7.own.fd; omega))
  replace hw := hw.trans (hb8.mono hw.size)
  have bC := hide hb7.box
  unfold gtO at bC
  have HB := hide hb7
  clear hb7 hg7 g7 hb8 HF x1 x2 f1 f2 bB hb6 hbx hT
  obtain ⟨x0, x1, x2, x3, x4, x5, x6, x7, x8⟩ := cl9 bC.out
  obtain ⟨y0, y1, y2, y3, y4, y5, y6, y7, y8⟩ := cl9 b1.out
  obtain ⟨f0, f1, f2, f3, f4, f5, f6, f7, f8⟩ := fr9 b1.out
  go_wp2_with fail
  refine bodyPost_ret (v := .tuple #[gtv (forgG ⟨g.ws, -1, true, g.t, g.vo, g.di⟩) k, .int .i64 0]) (by simp [results, Tryz.results32, go_sem, gtv, forgG, y0, y1, y2, y3, y4, y5, y6, y7, y8]) rfl ?_
  rw [HE.out]
  have hT := turns_set (turns_set (turns_set (turns_set (turns_set (turns_set (turns_set (turns_set (turns_set (World.grownBy.refl w6 (some (w.heap.size + 1))) 0 (.slice k.a k.n k.c)) 1 (.int .i64 (-1))) 2 (.bool true)) 3 (.int .i64 g.t.r.v)) 4 (.slice k.ak k.nk k.ck)) 5 (.int .i64 g.t.r.t)) 6 (.int .i64 g.t.ver)) 7 (.slice k.av k.nv k.cv)) 8 (.slice k.ad k.nd k.cd)
  exact ⟨⟨k, rfl, (HB.out.own.low hT hlt).gin, HB.out.own.fr hF0⟩, turns_below hw hT hx hw.size⟩

end Go.Proofs.YtgngpmgjoifepaaGreatDoor
