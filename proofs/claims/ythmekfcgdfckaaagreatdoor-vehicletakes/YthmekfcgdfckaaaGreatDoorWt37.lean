/- What Run's loop keeps: 'RInv'. No program in this text. What the factory's loops keep: a target, an image, a round's beginning and its end. No program in this text. Appending one element to a row of one's own; what the factory's loops say of their states. The contract of vehicle.factoryUnits, where each image has its name. The contract of vehicle.New, where it makes a vehicle. -/
import Derived.Test.YthmekfcgdfckaaaGreatDoorWt36
import Derived.Test.YthmekfcgdfckaaaGreatDoorWt35
import Derived.Test.YthmekfcgdfckaaaGreatDoorWt19
import Derived.Test.YthmekfcgdfckaaaGreatDoorWt27
import Derived.Test.YthmekfcgdfckaaaGreatDoorWt29
set_option maxRecDepth 1000000
set_option maxHeartbeats 0
namespace Go.Proofs.YthmekfcgdfckaaaGreatDoor
variable {k n:Nat} {w W:World} {cur:Array Value} {t:TypeId} {v:Value} {l:List Hp} {x:Hp} {a:Option Addr} {us:List Un}
section
open Go.RowKit
def KR (w:World) (B:Nat) (b:Nat):Prop:=(b<w.heap.size∧Sm w b)∨b=w.heap.size+1∨b=B∨b=B+1
structure RInv (w:World) (B n:Nat) (v:Vh) (l:List Hp) (k:Nat) (vk:Vh) (mk:VA) (wq:World):Prop where
  bel:Below w.heap.size w wq
  res:wq.heap[w.heap.size+1]?=some (vhO vh0 va0)
  own:wq.heap[B]?=some (vhO vk mk)
  said: ∃(cur:Array Value) (sd:List Int),wq.heap[B+1]?=some (.cells cur 51 (0,0))∧cur.size=n∧sd.length=k∧(∀(i:Nat) (x:Int),sd[i]?=some x→cur[i]?=some (Value.int .i64 x))∧runL v l= ((runL vk (l.drop k)).1,sd++(runL vk (l.drop k)).2)
  veh:VIn wq (KR w B) mk vk
  hB:w.heap.size+1<B
theorem drop_at {α:Type} {l:List α} {x:α} (h:l[k]?=some x):l.drop k=x::l.drop (k+1):=by
  obtain ⟨hk,rfl⟩:=List.getElem?_eq_some_iff.1 h;exact List.drop_eq_getElem_cons hk
theorem zie {b:Nat} {u:Value} (h:w.heap[b]?=some (.cells cur t (0,0))): (w.setCell ⟨b,k,none⟩ u).heap[b]?=some (.cells (cur.setIfInBounds k u) t (0,0)):=by
  simp only [World.setCell,Array.getElem?_modify]
  simp [h]
theorem zeq {b b' :Nat} {u:Value} {o:Obj} (h:w.heap[b']?=some o) (hn:b≠b'): (w.setCell ⟨b,k,none⟩ u).heap[b']?=some o:=by
  rw [Below.heap_setCell _ _ _ _ (fun e=>hn e.symm)];exact h
theorem zl2 {b:Nat} {sd:List Int} {e:Int} (hb:w.heap[b]?=some (.cells cur 51 (0,0))) (hn:cur.size=n) (hk:k<n) (hl:sd.length=k) (hs: ∀(i:Nat) (x:Int),sd[i]?=some x→cur[i]?=some (Value.int .i64 x)):
    ∃cur' :Array Value,(w.setCell ⟨b,k,none⟩ (.int .i64 e)).heap[b]?=some (.cells cur' 51 (0,0))∧cur'.size=n∧(sd++ [e]).length=k+1∧(∀(i:Nat) (x:Int),(sd++ [e])[i]?=some x→cur'[i]?=some (Value.int .i64 x)):=by
  refine⟨_,zie hb,by simpa using hn,by simp [hl],fun i x hx=> ?_⟩
  by_cases hi:i<k
  {
  rw [List.getElem?_append_left (by omega)] at hx;rw [Array.getElem?_setIfInBounds_ne (by omega)];exact hs i x hx
  }
  {
  have hik:i=k:=by have:=(List.getElem?_eq_some_iff.1 hx).1;simp at this;omega
  subst hik;rw [List.getElem?_append_right (by omega),hl] at hx
  simp at hx
  subst hx;exact Array.getElem?_setIfInBounds_self_of_lt (by omega)
  }
theorem KR.sm {B:Nat} {v:Vh} {vk:Vh} {mk:VA} {wq:World} (h:RInv w B n v l k vk mk wq) (hn:n≤160) (hb:Below wq.heap.size wq W) {b:Nat} (hk:KR w B b):b<W.heap.size∧Sm W b:=by
  have hs:=hb.size;have put: ∀{b:Nat} {cs:Array Value} {t:TypeId},wq.heap[b]?=some (.cells cs t (0,0))→cs.size<192→b<W.heap.size∧Sm W b:=fun h1 h2=>⟨by have:=zak h1;omega,_,_,zab h1 hb,h2⟩
  rcases hk with ⟨h1,cs,t,h2,h3⟩|rfl|rfl|rfl
  { exact put (zab h2 h.bel) h3 }
  { exact put (cs:=vhC vh0 va0) h.res (by show 15<192;decide) }
  { exact put (cs:=vhC vk mk) h.own (by show 15<192;decide) }
  {
  obtain ⟨cur,sd,h1,h2,-⟩:=h.said;exact put h1 (by omega)
  }
theorem run_step0 {v:Vh} {r:List Hp} (h: (doS' v x).2=0):runL v (x::r)= ((runL (doS' v x).1 r).1,0::(runL (doS' v x).1 r).2):=by show(if _ then _ else _)=_;rw [if_pos h]
theorem run_stepE {v:Vh} {r:List Hp} (h: (doS' v x).2≠0):runL v (x::r)= ((runL v r).1,(doS' v x).2::(runL v r).2):=by show(if _ then _ else _)=_;rw [if_neg h]
theorem RInv.err {B:Nat} {v:Vh} {vk:Vh} {mk:VA} {wq w6:World} (h:RInv w B n v l k vk mk wq) (hk:k<n) (hx:l[k]?=some x) (hb:Below wq.heap.size wq w6) (he: (doS' vk x).2≠0):
    RInv w B n v l (k+1) vk mk (w6.setCell ⟨B+1,k,none⟩ (.int .i64 (doS' vk x).2)):=by
  obtain ⟨cur,sd,h1,h2,h3,h4,h5⟩:=h.said;have hB:=h.hB;obtain ⟨cur',g1,g2,g3,g4⟩:=zl2 (e:=(doS' vk x).2) (zab h1 hb) h2 hk h3 h4;refine⟨?_,zeq (zab h.res hb) (by omega),zeq (zab h.own hb) (by omega),⟨cur',_,g1,g2,g3,g4, ?_⟩, ?_,hB⟩
  { exact h.bel.trans ((hb.mono h.bel.size).trans (((Chg.refl (fun b=>b=B+1) w6).set (p:=⟨B+1,k,none⟩) rfl _).below (fun q e=>by subst e;omega) (by have:=hb.size;have:=h.bel.size;omega))) }
  { rw [h5,drop_at hx,run_stepE he];simp }
  { exact(h.veh.below hb).chg ((Chg.refl (KR w B) w6).set (p:=⟨B+1,k,none⟩) (.inr (.inr (.inr rfl))) _) }
theorem RInv.ok {B:Nat} {v:Vh} {vk:Vh} {mk m' :VA} {wq w6:World} (h:RInv w B n v l k vk mk wq) (hn:n≤160) (hk:k<n) (hx:l[k]?=some x) (hW:Below wq.heap.size wq W) (hb:Below W.heap.size W w6) (he: (doS' vk x).2=0) (hv:VIn w6 (fun b=>b<W.heap.size∧Sm W b) m' (doS' vk x).1):
    RInv w B n v l (k+1) (doS' vk x).1 m' ((w6.setRow B (vhC (doS' vk x).1 m')).setCell ⟨B+1,k,none⟩ (.int .i64 0)):=by
  obtain ⟨cur,sd,h1,h2,h3,h4,h5⟩:=h.said;have hB:=h.hB;have hb6:=bT hW hb;have hp:=zcv w6 B (vhC (doS' vk x).1 m');have f1:=Chg.blk (zab h1 hb6) hp (by omega);have f0:=Chg.blk (zab h.res hb6) hp (by omega);have p1:=setRow_heap w6 B _ (vhC (doS' vk x).1 m') _ _ (zab h.own hb6);obtain ⟨cur',g1,g2,g3,g4⟩:=zl2 (e:=0) f1 h2 hk h3 h4;have hc:Chg (KR w B) w6 ((w6.setRow B (vhC (doS' vk x).1 m')).setCell ⟨B+1,k,none⟩ (.int .i64 0)):=(hp.mono fun b e=>.inr (.inr (.inl e))).set (p:=⟨B+1,k,none⟩) (.inr (.inr (.inr rfl))) _;refine⟨?_,zeq f0 (by omega),zeq p1 (by omega),⟨cur',_,g1,g2,g3,g4, ?_⟩, ?_,hB⟩
  {
  have hc2:Chg (fun b=>b=B∨b=B+1) w6 ((w6.setRow B (vhC (doS' vk x).1 m')).setCell ⟨B+1,k,none⟩ (.int .i64 0)):=(hp.mono fun b e=>.inl e).set (p:=⟨B+1,k,none⟩) (.inr rfl) _;exact h.bel.trans ((hb6.mono h.bel.size).trans (hc2.below (fun q e=>by omega) (by have:=hb6.size;have:=h.bel.size;omega)))
  }
  { rw [h5,drop_at hx,run_step0 he];simp }
  {
  exact(hv.wide fun b e=>.inl (KR.sm h hn hW e)).chg hc
  }
end
section
open Go.RowKit
theorem bs_lt {bs:Nat} (h:BI w (some ⟨bs,0,none⟩) 2 [3,5]):bs<w.heap.size:=by
  rcases h.at_ with e| ⟨b,off,e,hc⟩
  { cases e }
  { cases e;exact zah (hc 0 (by simp)) }
section
variable {W:World} {B:Nat} {q:FQ} {s:Fo} {i:Fi} {v u:Int} {wr w4:World}
theorem FI.tgt (h:FI W B q s i v u wr) {ts' :Value} {its:List T3} (hr:w4.ownsRow W.heap.size 163 3 ts' its.length (tgs its)) (hc:Chg (fun b=>q.ts.ownBlock=some b) wr w4) (hn:Nw wr q.ts ts'):
    FI W B ⟨q.tx,q.l,q.f,q.o,ts',q.im,q.Bo⟩ s ⟨i.ss,its,i.ims⟩ v u (w4.setCell ⟨q.Bo,4,none⟩ ts'):=by
  have a:=h.apart;obtain ⟨bs,hb,h1,h2⟩:=h.box;obtain ⟨vi,hi,hiv⟩:=h.ir;have hBn:q.ts.ownBlock≠some q.Bo:=zb1 h.tr hb (by decide);have hb4:w4.heap[q.Bo]?=some (.cells (obC v u q.ts q.im bs) 47 (0,0)):=(hc.block q.Bo (zak hb) hBn).trans hb;have hc2:Chg (fun b=>q.ts.ownBlock=some b∨b=q.Bo) wr (w4.setCell ⟨q.Bo,4,none⟩ ts'):=(hc.mono fun b e=>.inl e).set (p:=⟨q.Bo,4,none⟩) (.inr rfl) _;have hK: ∀b,KI B ⟨q.tx,q.l,q.f,q.o,ts',q.im,q.Bo⟩ b→KI B q b∨wr.heap.size≤b:=fun b e=>by
    rcases e with e|e|e|e
    · exact .inl (.inl e)
    · exact .inl (.inr (.inl e))
    · exact(hn.or e).imp (fun e=>.inr (.inr (.inl e))) id
    · exact .inl (.inr (.inr (.inr e)))
  have hlb:=h.lo;have hBB:=h.out.hB;have hC1: ∀b,(q.ts.ownBlock=some b∨b=q.Bo)→KI B q b:=fun b e=>by rcases e with e|e;exact .inr (.inr (.inl e));exact .inr (.inl e)
  have hC2: ∀b,(q.ts.ownBlock=some b∨b=q.Bo)→B≤b:=fun b e=>by rcases e with e|e;(have:=h.tr.lt b e;omega);omega
  have hC3: ∀b,KO B q.tx q.l q.f q.o b→¬(q.ts.ownBlock=some b∨b=q.Bo):=fun b e c=>by rcases c with c|c;exact(a b e).2.1 c;exact(a b e).1 c
  have o1:=(h.out.wide (K' :=fun b=>KI B q b∨wr.heap.size≤b) (fun b e=>e) (fun b e=>.inl (.inl e))).keep hc2 (fun b e=>.inl (hC1 b e)) hC2 hC3;have i1:=(h.ir.wide (K' :=fun b=>KI B q b∨wr.heap.size≤b) fun b e=>e).keep hc2 (fun b e=>.inl (hC1 b e)) (fun g e c=>by
    rcases c with c|c
    · exact zbg hi h.tr (by decide) g e c
    · exact zb1 hi hb (by decide) (by rw [←c];exact e))
  have hsz:=Nat.le_trans hc.size (Nat.le_of_eq (by simp [World.setCell]:w4.heap.size= (w4.setCell ⟨q.Bo,4,none⟩ ts').heap.size));refine⟨o1.wide (fun b e=>.inl (hK b e)) (fun b e=>.inl e),⟨bs, ?_,⟨h1.at_.chg hc2 (.at_ fun e=>h2 (hC1 _ e)),h1.len,h1.max⟩,fun e=> ?_⟩, ?_,i1.wide fun b e=>.inl (hK b e),h.n1,h.n2,h.lo,h.bk⟩
  · exact zie (k:=4) (u:=ts') hb4
  · rcases hK bs e with e|e
    · exact h2 e
    · have:=bs_lt h1;omega
  · exact zbt (C:=fun b=>b=q.Bo) hr ((Chg.refl (fun b=>b=q.Bo) w4).set (p:=⟨q.Bo,4,none⟩) rfl _) (fun g e c=>zb1 hr hb4 (by decide) (by rw [←c];exact e))
theorem FI.img (h:FI W B q s i v u wr) {im' :Value} {ims' :List (List Int)} (hr:LRow w4 W.heap.size (fun b=>KI B q b∨wr.heap.size≤b) im' ims') (hc:Chg (fun b=>q.im.ownBlock=some b) wr w4) (hn:Nw wr q.im im'):
    FI W B ⟨q.tx,q.l,q.f,q.o,q.ts,im',q.Bo⟩ s ⟨i.ss,i.ts,ims'⟩ v u (w4.setCell ⟨q.Bo,6,none⟩ im'):=by
  have a:=h.apart;obtain ⟨bs,hb,h1,h2⟩:=h.box;obtain ⟨vi,hi,hiv⟩:=h.ir;obtain ⟨vf,hf,-⟩:=h.out.fr;have hBn:q.im.ownBlock≠some q.Bo:=zb1 hi hb (by decide);have hb4:w4.heap[q.Bo]?=some (.cells (obC v u q.ts q.im bs) 47 (0,0)):=(hc.block q.Bo (zak hb) hBn).trans hb;have hc2:Chg (fun b=>q.im.ownBlock=some b∨b=q.Bo) wr (w4.setCell ⟨q.Bo,6,none⟩ im'):=(hc.mono fun b e=>.inl e).set (p:=⟨q.Bo,6,none⟩) (.inr rfl) _;have hK: ∀b,KI B ⟨q.tx,q.l,q.f,q.o,q.ts,im',q.Bo⟩ b→KI B q b∨wr.heap.size≤b:=fun b e=>by
    rcases e with e|e|e|e
    · exact .inl (.inl e)
    · exact .inl (.inr (.inl e))
    · exact .inl (.inr (.inr (.inl e)))
    · exact(hn.or e).imp (fun e=>.inr (.inr (.inr e))) id
  have hlb:=h.lo;have hBB:=h.out.hB;have hC1: ∀b,(q.im.ownBlock=some b∨b=q.Bo)→KI B q b:=fun b e=>by rcases e with e|e;exact .inr (.inr (.inr e));exact .inr (.inl e)
  have hC2: ∀b,(q.im.ownBlock=some b∨b=q.Bo)→B≤b:=fun b e=>by rcases e with e|e;(have:=hi.lt b e;omega);omega
  have hC3: ∀b,KO B q.tx q.l q.f q.o b→¬(q.im.ownBlock=some b∨b=q.Bo):=fun b e c=>by rcases c with c|c;exact(a b e).2.2 c;exact(a b e).1 c
  have o1:=(h.out.wide (K' :=fun b=>KI B q b∨wr.heap.size≤b) (fun b e=>e) (fun b e=>.inl (.inl e))).keep hc2 (fun b e=>.inl (hC1 b e)) hC2 hC3;obtain ⟨vs4,h41,-⟩:=id hr;refine⟨o1.wide (fun b e=>.inl (hK b e)) (fun b e=>.inl e),⟨bs, ?_,⟨h1.at_.chg hc2 (.at_ fun e=>h2 (hC1 _ e)),h1.len,h1.max⟩,fun e=> ?_⟩, ?_, ?_,h.n1,fun g e c=> ?_,h.lo,h.bk⟩
  · exact zie (k:=6) (u:=im') hb4
  · rcases hK bs e with e|e
    · exact h2 e
    · have:=bs_lt h1;omega
  · exact zbt h.tr hc2 (fun g e c=>by
      rcases c with c|c
      · exact zbg h.tr hi (by decide) g e c
      · exact zb1 h.tr hb (by decide) (by rw [←c];exact e))
  · exact(hr.keep (C:=fun b=>b=q.Bo) ((Chg.refl (fun b=>b=q.Bo) w4).set (p:=⟨q.Bo,6,none⟩) rfl _) (fun b e=>.inl (.inr (.inl e))) (fun g e c=>zb1 h41 hb4 (by decide) (by rw [←c];exact e))).wide fun b e=>.inl (hK b e)
  · rcases hn.or e with e|e
    · exact h.n2 g e c
    · have:=(hf.lt g c).2;omega
theorem FO.start {tx l f o:Value} (h:FO W B (KO B tx l f o) tx l f o s wr):
    FI W B ⟨tx,l,f,o,.slice none 0 0,.slice none 0 0,wr.heap.size+1⟩ s ⟨s.ss, [], []⟩ v u ((wr.alloc (.cells #[.int .i64 3,.int .i64 5] 3)).alloc (.cells (obC v u (.slice none 0 0) (.slice none 0 0) wr.heap.size) 47)):=by
  have hb:Below wr.heap.size wr ((wr.alloc (.cells #[.int .i64 3,.int .i64 5] 3)).alloc (.cells (obC v u (.slice none 0 0) (.slice none 0 0) wr.heap.size) 47)):=bA2;obtain ⟨vo,ho,-⟩:=h.or;have hlt: ∀b,KO B tx l f o b→b<wr.heap.size:=fun b e=>by
    obtain ⟨vf,hf,-⟩:=h.fr
    rcases e with e|e|e|e|e
    { exact Nat.lt_of_le_of_lt e (zak h.bk.box) }
    { exact(h.bk.row.lt b e).2 }
    { exact(h.lr.lt b e).2 }
    { exact(hf.lt b e).2 }
    { exact(ho.lt b e).2 }
  have hK: ∀b,KI B ⟨tx,l,f,o,.slice none 0 0,.slice none 0 0,wr.heap.size+1⟩ b→KO B tx l f o b∨wr.heap.size≤b:=fun b e=>by
    rcases e with e|e|e|e
    { exact .inl e }
    { have e:b=wr.heap.size+1:=e;exact .inr (by omega) }
    { cases e }
    { cases e }
  have hw:=h.bel.size;have hBB:=h.hB;have hk:FO W B (KO B tx l f o) tx l f o s ((wr.alloc (.cells #[.int .i64 3,.int .i64 5] 3)).alloc (.cells (obC v u (.slice none 0 0) (.slice none 0 0) wr.heap.size) 47)):=h.keep (C:=fun _=>False) (.of hb _) (fun b e=>e.elim) (fun b e=>e.elim) (fun b _ e=>e);have hx:=(h.wide (K' :=fun b=>KO B tx l f o b∨wr.heap.size≤b) (fun b e=>e) (fun b e=>.inl e)).keep (C:=fun _=>False) (.of hb _) (fun b e=>e.elim) (fun b e=>e.elim) (fun b _ e=>e);refine⟨hx.wide (fun b e=>.inl (hK b e)) (fun b e=>.inl e),⟨wr.heap.size,zau _ _ _,⟨(zd2 _ _ _ _ _ rfl rfl:zag (wr.alloc (.cells #[.int .i64 3,.int .i64 5] 3)) (some ⟨wr.heap.size,0,none⟩) [3,5]).alloc _,rfl,by decide⟩,fun e=> ?_⟩,World.ownsRow_nil _ _ _ _,⟨[],World.ownsRow_nil _ _ _ _,rfl⟩,fun e=> ?_,fun g e=>by(cases e),by show W.heap.size≤wr.heap.size+1;omega,rfl⟩
  {
  rcases e with e|e|e|e
  { have:=hlt _ e;omega }
  { have e:wr.heap.size=wr.heap.size+1:=e;omega }
  { cases e }
  { cases e }
  }
  { have:=(ho.lt (wr.heap.size+1) e).2;omega }
theorem FI.drop (h:FI W B q s i v u wr):FO W B (KO B q.tx q.l q.f q.o) q.tx q.l q.f q.o s wr:=h.out.wide (fun _ e=>.inl (.inl e)) (fun _ e=>e)
theorem FI.done (h:FI W B q s i v u wr) {o' :Value} (hc:Chg (fun b=>q.o.ownBlock=some b) wr w4) (hn:Nw wr q.o o')
    (ho: ∀vs bs,wr.ownsRow W.heap.size 47 7 q.o s.offs.length vs→wr.heap[q.Bo]?=some (.cells (obC v u q.ts q.im bs) 47 (0,0))→w4.ownsRow W.heap.size 47 7 o' (s.offs.length+1) (vs++(obC v u q.ts q.im bs).toList)) (hm:i.ims.length≤1000∧i.ts.length≤1000):
    FO W B (KO B q.tx q.l q.f o') q.tx q.l q.f o' ⟨s.ss,s.sg,s.fst,s.offs++ [⟨[], [],v,u,i.ts, [3,5],i.ims⟩]⟩ w4:=by
  have a:=h.apart;obtain ⟨bs,hb,h1,h2⟩:=h.box;have hd:=h.drop;obtain ⟨vo,ho1,ho2⟩:=hd.or;have hor:=ho vo bs ho1 hb;have htr:=h.tr;obtain ⟨vi,hi,hiv⟩:=h.ir;obtain ⟨a3,c3,e3⟩:=zbk htr;obtain ⟨a5,c5,e5⟩:=zbk hi;rw [e3] at htr;rw [e5] at hi;have hK: ∀b,KO B q.tx q.l q.f o' b→KO B q.tx q.l q.f q.o b∨wr.heap.size≤b:=fun b e=>by
    rcases e with e|e|e|e|e
    { exact .inl (.inl e) }
    { exact .inl (.inr (.inl e)) }
    { exact .inl (.inr (.inr (.inl e))) }
    { exact .inl (.inr (.inr (.inr (.inl e)))) }
    { exact(hn.or e).imp (fun e=>.inr (.inr (.inr (.inr e)))) id }
  have hlt:=bs_lt h1;have hbs: ¬(KO B q.tx q.l q.f q.o bs∨wr.heap.size≤bs):=fun e=>by
    rcases e with e|e
    { exact h2 (.inl e) }
    { omega }
  have hat: ∀ad,a3=some ad→¬(KO B q.tx q.l q.f q.o ad.block∨wr.heap.size≤ad.block):=fun ad e c=>by
    rcases htr.2 with ⟨x,-⟩| ⟨g,cap,cur,x,-,hg,-⟩
    { rw [e] at x;cases x }
    {
    cases x;cases e
    rcases c with c|c
    { exact(a _ c).2.1 (by rw [e3];rfl) }
    { have:=zak hg;have c:wr.heap.size≤g:=c;omega }
    }
  have hai: ∀ad,a5=some ad→¬(KO B q.tx q.l q.f q.o ad.block∨wr.heap.size≤ad.block):=fun ad e c=>by
    rcases hi.2 with ⟨x,-⟩| ⟨g,cap,cur,x,-,hg,-⟩
    { rw [e] at x;cases x }
    {
    cases x;cases e
    rcases c with c|c
    { exact(a _ c).2.2 (by rw [e5];rfl) }
    { have:=zak hg;have c:wr.heap.size≤g:=c;omega }
    }
  have hnew:OR wr (fun b=>KO B q.tx q.l q.f q.o b∨wr.heap.size≤b) ⟨[], [],v,u,i.ts, [3,5],i.ims⟩ (obC v u q.ts q.im bs).toList:=
    ⟨rfl,rfl,⟨none,0,0,none,0,0,a3,i.ts.length,c3,some ⟨bs,0,none⟩,2,2,a5,i.ims.length,c5⟩,by rw [e3,e5];rfl,rfl,rfl,⟨⟨tgs_of (zdd htr),rfl,by have:=hm.2;show i.ts.length≤maxLen;unfold maxLen;omega⟩,.inr hat⟩,⟨h1,.at_ hbs⟩,⟨vi,zdd hi,hiv.mono (LR.off fun b e=>by rcases e with e|e;exact .inl (.inl e);exact .inr e),.inr hai⟩,rfl,by have:=hm.1;show i.ims.length≤maxLen;unfold maxLen;omega⟩
  have hall:Vs (OR wr (fun b=>KO B q.tx q.l q.f q.o b∨wr.heap.size≤b)) (s.offs++ [⟨[], [],v,u,i.ts, [3,5],i.ims⟩]) (vo++(obC v u q.ts q.im bs).toList):=(ho2.mono (OR.off fun b e=>e)).app ⟨_, [],by simp,hnew,rfl⟩;refine hd.offer ⟨_, ?_,hall.mono (OR.chg (hc.mono fun b e=>.inl (.inr (.inr (.inr (.inr e))))))⟩ hc hK (fun _ e=>e)
  simpa using hor
end
end
section
open Go.RowKit
theorem zed {P:Program} (w:World) (t e:TypeId) (F:Nat) (i:TypeInfo) (z:Value) (size bytes:Nat) (ht:P.underlying t=some (.slice e)) (hi:P.info? e=some i) (hz:i.zero=some z) (hs:i.size=size) (hb:i.bytes=bytes) (hzs:z.cells.size=size) (hs0:0<size) (hb2:bytes≤1000)
    (v:Value) (n:Nat) (vs:List Value) (h:w.ownsRow F e size v n vs) (c:Array Value) (hc:c.size=size) (h1:c.all (·.oneCell')=true) (hn:n≤1000) (hF:F≤w.heap.size):
    ∃g cap w4,(Builtin.append_ #[t,t] t #[v,.slice (some ⟨w.heap.size,0,none⟩) 1 1]).run P (w.alloc (.cells c e))=.ok (.slice (some ⟨g,0,none⟩) (n+1) cap) w4∧w4.ownsRow F e size (.slice (some ⟨g,0,none⟩) (n+1) cap) (n+1) (vs++c.toList)∧Chg (fun b=>v.ownBlock=some b) w w4∧Nw w v (.slice (some ⟨g,0,none⟩) (n+1) cap):=by
  have hbl:Below w.heap.size w (w.alloc (.cells c e)):=bA1;have hby: (n+1)* bytes≤140737488355328:=Nat.le_trans (Nat.mul_le_mul (show n+1≤1001 by omega) hb2) (by decide);obtain ⟨g,cap,w4,hr,ho,hg,hat,-⟩:=run_append_lies (P:=P) (w.alloc (.cells c e)) t t F e i z size bytes ht hi hz hs hb hzs hs0 v n vs (h.alloc _) ⟨w.heap.size,0,none⟩ 1 1 c.toList (by rw [Array.length_toList,hc,Nat.one_mul]) (World.news_of_block (heap_alloc_last w (.cells c e))) (fun u hu=>Array.all_eq_true_iff_forall_mem.1 h1 u (by simpa using hu)) (by omega) (by unfold maxLen;omega) hby (Nat.le_trans hF hbl.size) _ rfl;refine⟨g,cap,w4,hr,ho,(Chg.of hbl _).trans (Chg.grown hg fun b e=>e), ?_⟩
  rcases hat with h|h
  { exact .inl (by rw [h];rfl) }
  { exact .inr ⟨g,rfl,by rw [h];exact hbl.size⟩ }
theorem zfg {F:Nat} {vs vs' :List Value} (h:w.ownsRow F t k v n vs) (h' :w.ownsRow F t k v n vs'):vs=vs' :=by
  rcases h.2 with ⟨e1,e2⟩| ⟨g1,cap1,cur1,e1,-,e3,-,-,-,e4⟩
  { rw [List.eq_nil_of_length_eq_zero (by rw [h.1,e2,Nat.zero_mul]:vs.length=0),List.eq_nil_of_length_eq_zero (by rw [h'.1,e2,Nat.zero_mul]:vs'.length=0)] }
  {
  rcases h'.2 with ⟨f1,f2⟩| ⟨g2,cap2,cur2,f1,-,f3,-,-,-,f4⟩
  { rw [e1] at f1;cases f1 }
  { rw [e1] at f1;cases f1;rw [e3] at f3;cases f3;rw [←e4,←f4] }
  }
theorem zlo {F:Nat} {c:Nat} {vs:List Value} (h:w.ownsRow F t k (.slice a n c) n vs):n≤c:=by
  rcases h.2 with ⟨e,-⟩| ⟨g,cap,cur,e,-,-,h1,-⟩
  { cases e;exact Nat.le_refl _ }
  { cases e;exact h1 }
theorem LRow.snoc {w4:World} {F:Nat} {K:Nat→Prop} {v' :Value} {ls:List (List Int)} (h:LRow w F K v ls) (hv: ∀b,v.ownBlock=some b→K b) {r:List Int} (hr:zag w a r) (hm:r.length≤maxLen) (ha:Ao r (fun b=>K b∨w.heap.size≤b) a)
    (ho: ∀vs,w.ownsRow F 26 1 v ls.length vs→w4.ownsRow F 26 1 v' (ls.length+1) (vs++ [.slice a r.length r.length])) (hc:Chg (fun b=>v.ownBlock=some b) w w4):LRow w4 F (fun b=>K b∨w.heap.size≤b) v' (ls++ [r]):=by
  obtain ⟨vs,h1,h2⟩:=h;have hc2:Chg (fun b=>K b∨w.heap.size≤b) w w4:=hc.mono fun b e=>.inl (hv b e)
  refine⟨_,by simpa using ho vs h1, ?_⟩;have h3:Vs (LR w (fun b=>K b∨w.heap.size≤b)) [r] [.slice a r.length r.length]:=⟨_, [],by simp,⟨a,r.length,rfl,hr,Nat.le_refl _,hm,ha⟩,rfl⟩;exact((h2.mono (LR.off (K' :=fun b=>K b∨w.heap.size≤b) fun b e=>e)).app h3).mono (LR.chg hc2)
section
variable {W:World} {B:Nat} {q:FQ} {s:Fo} {i:Fi} {v u:Int} {wr:World}
theorem FI.lt (h:FI W B q s i v u wr): ∀b,KI B q b→b<wr.heap.size:=fun b e=>by
  obtain ⟨bs,hb,-⟩:=h.box;obtain ⟨vf,hf,-⟩:=h.out.fr;obtain ⟨vo,ho,-⟩:=h.out.or;obtain ⟨vi,hi,-⟩:=h.ir
  rcases e with (e|e|e|e|e)|e|e|e
  { exact Nat.lt_of_le_of_lt e (zak h.out.bk.box) }
  { exact(h.out.bk.row.lt b e).2 }
  { exact(h.out.lr.lt b e).2 }
  { exact(hf.lt b e).2 }
  { exact(ho.lt b e).2 }
  { rw [e];exact zak hb }
  { exact(h.tr.lt b e).2 }
  { exact(hi.lt b e).2 }
theorem FI.below {w' :World} (h:FI W B q s i v u wr) (hb:Below wr.heap.size wr w'):FI W B q s i v u w' :=by
  obtain ⟨r1,r2,r3⟩:=h.rest (C:=fun _=>False) (K' :=KI B q) (.of hb _) (fun _ e=>e.elim) (fun _ e=>.inl e);exact⟨h.out.keep (C:=fun _=>False) (.of hb _) (fun _ e=>e.elim) (fun _ e=>e.elim) (fun _ _ e=>e),r1,r2,r3,h.n1,h.n2,h.lo,h.bk⟩
theorem FI.base (h:FI W B q s i v u wr):W.heap.size≤wr.heap.size:=h.out.bel.size
end
def spI (s:Fo) (v j:Nat):Fo:=⟨(inF s.ss v j).ss,s.sg,if v=0 then(inF s.ss v j).ims else s.fst,s.offs⟩
theorem zid (ss:List ByteArray) (v:Nat): ∀j,(inF ss v j).ts.length=j∧(inF ss v j).ims.length=j
  |0=>⟨rfl,rfl⟩
  |j+1=>by
    obtain ⟨h1,h2⟩:=zid ss v j
    show((inF ss v j).ts++ [_]).length=_∧((inF ss v j).ims++ [_]).length=_
    simp [h1,h2]
theorem adF_len (ss:List ByteArray) (s:ByteArray): (adF ss s).length≤ss.length+1:=by
  unfold adF
  split<;>simp
theorem zjz (ss:List ByteArray) (v:Nat): ∀j,(inF ss v j).ss.length≤ss.length+j
  |0=>Nat.le_refl _
  |j+1=>by
    have:=zjz ss v j;have:=adF_len (inF ss v j).ss (bs (imgT (imgF v j)))
    show(adF (inF ss v j).ss (bs (imgT (imgF v j)))).length≤_
    omega
theorem zjf (units:Nat) (u:Int): ∀v,(outF units u v).ss.length≤v *(units+1)∧(outF units u v).sg.length≤2 * v∧(outF units u v).offs.length≤v∧(outF units u v).fst.length≤units
  |0=>⟨Nat.zero_le _,Nat.zero_le _,Nat.zero_le _,Nat.zero_le _⟩
  |v+1=>by
    obtain ⟨h1,h2,h3,h4⟩:=zjf units u v;have h5:=zjz (outF units u v).ss v units;have h6:=(zid (outF units u v).ss v units).2
    show(outP u v (outF units u v) (inF (outF units u v).ss v units)).ss.length≤_∧(outP u v (outF units u v) (inF (outF units u v).ss v units)).sg.length≤_∧(outP u v (outF units u v) (inF (outF units u v).ss v units)).offs.length≤_∧(outP u v (outF units u v) (inF (outF units u v).ss v units)).fst.length≤_
    have e: (v+1)*(units+1)=v *(units+1)+units+1:=by rw [Nat.add_mul];omega
    unfold outP
    split
    { exact⟨by show(inF _ v units).ss.length≤_;omega,by show(outF units u v).sg.length≤_;omega,by show(outF units u v).offs.length≤_;omega,by show(inF _ v units).ims.length≤_;omega⟩ }
    {
    have h7:=adF_len (inF (outF units u v).ss v units).ss (bs (relT v u (inF (outF units u v).ss v units).ts));refine⟨by show(adF _ _).length≤_;omega, ?_,by unfold outQ;simp;omega,by show(outF units u v).fst.length≤_;omega⟩;unfold outQ;dsimp only
    split<;>simp<;>omega
    }
theorem imgF_ok (v k:Nat) (hv:v<4) (hk:k<4):imgE (imgF v k)=0:=by
  have: ∀v,v<4→∀k,k<4→imgE (imgF v k)=0:=by decide+kernel
  exact this v hv k hk
theorem imgF_len (v k:Nat): (imgF v k).length=3+9 * k+v:=by unfold imgF;simp
theorem infoLs: (Tryz.prog.info? 26).map (fun i=>(i.zero,i.size,i.bytes))=some (some (.slice none 0 0),1,24):=by kernel_rfl
theorem infoOf: (Tryz.prog.info? 47).map (fun i=>(i.zero,i.size,i.bytes))=some (some (.agg (ofC 0 0 oa9)),7,136):=by kernel_rfl
end
section
open Go.RowKit
attribute [local go_sem ↓] Go.wp_at_zero Go.wp_at_succ
def unF (ss:List ByteArray) (im:List Int):Un:=(newU im (inN ss im)).1
def UnOk (ss:List ByteArray) (im:List Int):Prop:=inE ss im=0∧inN ss im≠0∧(newU im (inN ss im)).2=0∧(unF ss im).ws.length=192
def pU (j:Nat) (u:Value):Prop:=j=2→∀x,u≠.int .i64 x
theorem ints_gap {xs:List Int} {g:Nat} (h:zag w a xs) (hx:5≤xs.length) (hb:w.heap[g]?=some (.cells cur t (0,0))) (hs:AllC 5 pU cur):Off g a:=by
  rcases h with h| ⟨b,off,rfl,hi⟩
  { subst h;simp at hx }
  {
  intro ad e;cases e;intro hgb;have hgb:b=g:=hgb;subst hgb;obtain ⟨j,hj,h5⟩: ∃j,j<5∧(off+j)% 5=2:=⟨(7 - off % 5)% 5,by omega,by omega⟩;have hc:=hi j (by omega);rw [cell_of_row w b (off+j) cur t (0,0) hb] at hc;exact hs (off+j) _ hc h5 _ rfl
  }
def KU (W:World) (v:Value) (b:Nat):Prop:=Sm W b∨v.ownBlock=some b
structure FUI (W:World) (us:List Un) (k:Nat) (v:Value) (wr:World):Prop where
  bel:Below W.heap.size W wr
  row: ∃vs,wr.ownsRow W.heap.size 82 5 v k vs∧Vs (UR wr (KU W v)) us vs
  all: ∀g cur,v.ownBlock=some g→wr.heap[g]?=some (.cells cur 82 (0,0))→AllC 5 pU cur
theorem FUI.ao {wr w3:World} (h:FUI W us k v wr) (hb:Below wr.heap.size wr w3) {ws:List Int} (hi:zag w3 a ws) (hl:ws.length=192):Ao ws (KU W v) a:=by
  have h1:=zk2 (K:=Sm W) hi hl (h.bel.trans (hb.mono h.bel.size)) (fun _ e=>e)
  rcases h1 with h1|h1
  { exact .inl h1 }
  {
  refine .inr fun ad e hk=> ?_
  rcases hk with hk|hk
  { exact h1 ad e hk }
  {
  obtain ⟨vs,hr,-⟩:=h.row
  rcases hr.2 with ⟨e2,-⟩| ⟨g,cap,cur,e2,-,hg,-⟩
  { rw [e2] at hk;cases hk }
  {
  rw [e2] at hk;have hk:g=ad.block:=by simpa [Value.ownBlock] using hk
  exact ints_gap hi (by omega) (zab hg hb) (h.all g cur (by rw [e2];rfl) hg) ad e hk.symm
  }
  }
  }
theorem FUI.next {wr w3 w4:World} (h:FUI W us k v wr) (hb:Below wr.heap.size wr w3) {u:Un} {c g cap:Nat} (hu:BW w3 a n c u.ws) (hl:u.ws.length=192)
    (hg:w3.grownBy w4 v.ownBlock) (hat:v.ownBlock=some g∨g=w3.heap.size) (ho: ∀vs,w3.ownsRow W.heap.size 82 5 v k vs→w4.ownsRow W.heap.size 82 5 (.slice (some ⟨g,0,none⟩) (k+1) cap) (k+1) (vs++ [.slice a n c,.int .i64 u.fu,.bool u.up,.int .i64 u.n,.int .i64 u.hv]))
    (hall: ∀g' cur,(Value.slice (some ⟨g,0,none⟩) (k+1) cap).ownBlock=some g' →w4.heap[g']?=some (.cells cur 82 (0,0))→AllC 5 pU cur):
    FUI W (us++ [u]) (k+1) (.slice (some ⟨g,0,none⟩) (k+1) cap) w4:=by
  obtain ⟨vs,hr,hv⟩:=h.row;have hb3:=h.bel.trans (hb.mono h.bel.size);have hr3:=zba hr hb;have hc:Chg (KU W v) w3 w4:=Chg.grown hg (fun b e=>.inr e);have hK: ∀b,KU W (.slice (some ⟨g,0,none⟩) (k+1) cap) b→KU W v b∨w3.heap.size≤b:=fun b e=>by
    rcases e with e|e
    { exact .inl (.inl e) }
    {
    have e:g=b:=by simpa [Value.ownBlock] using e
    rcases hat with h|h
    { exact .inl (.inr (by rw [h,e])) }
    { exact .inr (by omega) }
    }
  refine⟨?_,⟨_,ho vs hr3, ?_⟩,hall⟩
  {
  refine hb3.trans ?_;refine⟨hg.os,hg.tape,hg.output,Nat.le_trans (Nat.le_refl _) hg.size,fun j hj=>hg.block j (Nat.lt_of_lt_of_le hj hb3.size) (fun e=> ?_)⟩;have:=hr.lt j e.symm;omega
  }
  {
  have h1:Vs (UR w3 (KU W v)) us vs:=hv.mono (UR.chg (.of hb _));have h2:Vs (UR w3 (KU W v)) (us++ [u]) (vs++ [.slice a n c,.int .i64 u.fu,.bool u.up,.int .i64 u.n,.int .i64 u.hv]):=h1.app ⟨_, [],by simp,⟨a,n,c,rfl,hu,h.ao hb hu.at_ hl⟩,rfl⟩;have h3:Vs (UR w3 (fun b=>KU W v b∨w3.heap.size≤b)) (us++ [u]) _:=h2.mono (UR.off fun b e=>e);have h4:=h3.mono (UR.chg (hc.mono (K' :=fun b=>KU W v b∨w3.heap.size≤b) fun b e=>.inl e));exact h4.mono (UR.off fun b e=>.inl (hK b e))
  }
theorem infoU: (Tryz.prog.info? 82).map (fun i=>(i.zero,i.size,i.bytes))=some (some (.agg #[.slice none 0 0,.int .i64 0,.bool false,.int .i64 0,.int .i64 0]),5,56):=by kernel_rfl
theorem zou (a0:Value) (b:Bool) (a1 a3 a4:Value):AllC 5 pU #[a0,a1,.bool b,a3,a4]:=by
  intro i u hu hj x;have hi:i<5:=by have:=(Array.getElem?_eq_some_iff.1 hu).1;simpa using this
  obtain rfl:i=2:=by omega
  cases hu
  simp
def FuAns (w:World) (us:List Un) (e:Ending) (w' :World):Prop:=(∃a n c,e=.returned (.tuple #[.slice a n c,.int .i64 0])∧RIn UR w' (fun b=>b<w.heap.size∧Sm w b) a n c us)∧Below w.heap.size w w'
theorem FUI.last {c:Nat} {wr:World} (h:FUI W us k (.slice a n c) wr) (hw:Below w.heap.size w W) (hl:us.length=k) (hm:k≤1000):FuAns w us (.returned (.tuple #[.slice a n c,.int .i64 0])) wr:=by
  obtain ⟨vs,hr,hv⟩:=h.row;have hK: ∀b,(b<w.heap.size∧Sm w b)→KU W (.slice a n c) b∨wr.heap.size≤b:=fun b e=>by
    obtain ⟨cs,t,h1,h2⟩:=e.2;exact .inl (.inl ⟨cs,t,zab h1 hw,h2⟩)
  have hsz:=hw.size;refine⟨⟨a,n,c,rfl, ?_⟩,hw.trans (h.bel.mono hw.size)⟩
  rcases hr.2 with ⟨e,e0⟩| ⟨g,cap,cur,e,hg0,hg,hc1,hc2,-,-⟩
  {
  cases e;have:vs= []:=List.eq_nil_of_length_eq_zero (by rw [hr.1,e0]);subst this;exact⟨⟨[],.inl rfl,hv.mono (UR.off hK),.inl rfl⟩,by omega,Nat.le_refl _,by decide⟩
  }
  {
  cases e;exact⟨⟨vs,.inr ⟨g,0,rfl,fun j u hu=>by have:=hr.cells (g:=g) rfl j u hu;rwa [zc2] at this⟩,hv.mono (UR.off hK),.at_ (by show¬(g<_∧_);omega)⟩,hl,hc1,by unfold maxLen;omega⟩
  }
theorem zi0 (ab:Option Addr) (nb cb:Nat) (ss:List ByteArray) (ai:Option Addr) (ni ci:Nat) (ims:List (List Int)) (w:World) (hb:BB w ab nb cb ss) (hi:BL w ai ni ims) (hT:Tab w) (hok: ∀im∈ims,UnOk ss im) (hn:ni≤1000):
    Calls Tryz.prog 41 #[bookv ab nb cb,.slice ai ni ci] w (FuAns w (ims.map (unF ss))):=by
  have hw:Below w.heap.size w (w.alloc (.cells #[.slice ab nb cb] 24)):=bA1;have b0:=hide (heap_alloc_last w (.cells #[.slice ab nb cb] 24));have HB:=hide hb;have HI:=hide hi;have HT:=hide hT;have HO:=hide hok;have HN:Hid (ims.length=ni):=hi.len;have HM:=hide hn;have hnI: (ni:Int)≤1000:=by omega
  clear hb hi hT hok hn;unfold bookv;go_enter Tryz.func41,Tryz.ntmps41;go_wp2_with fail;generalize w.alloc (.cells #[.slice ab nb cb] 24)=W at *;have I0:Hid (FUI W ((ims.take 0).map (unF ss)) 0 (.slice none 0 0) W):=⟨Below.refl _ _,⟨[],World.ownsRow_nil _ _ _ _,rfl⟩,fun g cur h=>by cases h⟩;obtain ⟨irr,hir,rz0,rz1,rz2⟩:=info_parts infoU
  go_loopw [6,14] (fun p i wq=>∃(k:Nat),k≤ni∧i=.int .i64 k∧Hid (FUI W ((ims.take k).map (unF ss)) k p wq)) (fun _ i _=>ni - (intOf i).toNat)
  case atStart=>exact⟨0,by omega,rfl,I0⟩
  case round=>
    clear I0;obtain ⟨wq,rfl⟩: ∃wq:World,wq=wr:=⟨_,rfl⟩;obtain ⟨k,hk,rfl,hI⟩:=hrel
    by_cases hkn:k<ni
    {
    have hkI: (k:Int)< (ni:Int):=by omega
    have hul:k<ims.length:=by rw [HN.out];exact hkn
    have hB:=hw.trans (hI.out.bel.mono hw.size);obtain ⟨bi,oi,a5,c5,rfl,hcell,hints,hc5,hm5⟩:=zfd HI.out.at_ k hul;have HOk:=hide (HO.out ims[k] (List.getElem_mem hul));have HTk:Hid ((ims.take (k+1)).map (unF ss)= (ims.take k).map (unF ss)++ [unF ss ims[k]]):=by show _=_;rw [List.take_succ_eq_append_getElem hul,List.map_append];rfl
    have hcell2:wq.cell? ⟨bi,oi+k,none⟩=some (Value.slice a5 ims[k].length c5):=(hB.cell (zah hcell)).trans hcell;have bq:=zaa (zab b0.out hI.out.bel) 0 _ rfl;generalize ims[k]=im at *;have hB2:=HB.out.below hB;have hlm:im.length≤maxLen:=Nat.le_trans hc5 hm5;have HC:=hide (zew ab nb cb ss a5 im.length c5 im wq hB2.at_ hB2.len hB2.cap hB2.max hB2.short (hints.below hB) rfl hlm (HT.out.below hB));have HU:=hide (fun W2 (h2:Below wq.heap.size wq W2)=>zo0 a5 im.length c5 im (inN ss im) W2 ⟨(hints.below hB).below h2,rfl,hlm⟩);unfold bookv at HC;clear hul hcell hints hc5 hm5 hB hB2 hlm;have HK:Hid (k<ni):=hkn;clear hkn hk;go_wp2_with fail;refine(zae HC).mono ?_;rintro e w2 ⟨rfl,hb2⟩;have d1: (inE ss im !=0)=false:=by simpa using HOk.out.1
    have d2: (inN ss im==0)=false:=by simpa using HOk.out.2.1
    clear HC;go_wp2_with fail;refine(zae HU _ hb2).mono ?_;rintro e w3 ⟨⟨a6,n6,c6,rfl,hu6⟩,hb3⟩;unfold unv;have d3: ((newU im (inN ss im)).2 !=0)=false:=by simpa using HOk.out.2.2.1
    have HL6:Hid ((newU im (inN ss im)).1.ws.length=192):=HOk.out.2.2.2;clear HU d1 d2
    change Hid ((ims.take (k+1)).map (unF ss)= (ims.take k).map (unF ss)++ [(newU im (inN ss im)).1]) at HTk
    generalize (ims.take k).map (unF ss)=us at *;generalize inN ss im=nm at *;generalize inE ss im=ne at *;generalize newU im nm=r at *;obtain ⟨u,e6⟩:=r;dsimp only at HTk HL6 hu6 d3⊢;have hbq:=bT hb2 hb3;have hb4:Below w3.heap.size w3 ((w3.alloc (.cells (aU a6 n6 c6 u) 82)).alloc (.cells (aU a6 n6 c6 u) 82)):=bA2;have hbq4:=bT hbq hb4;have bm:=hide (zau w3 (.cells (aU a6 n6 c6 u) 82) (.cells (aU a6 n6 c6 u) 82));obtain ⟨vs,hrow,-⟩:=hI.out.row;have hrw:=zba hrow hbq4;have hsz:=hI.out.bel.size;have hsz2:=hbq4.size;have hkm:k+1≤maxLen:=by have:=HK.out;have:=HM.out;unfold maxLen;omega
    obtain ⟨g,cap,w4,hr4,ho4,hg4,hat4,hlt4⟩:=run_append_lies (P:=Tryz.prog) _ 36 36 W.heap.size 82 irr _ 5 56 Tryz.underlying36 hir rz0 rz1 rz2 rfl (by omega) u6 k vs hrw ⟨w3.heap.size+1,0,none⟩ 1 1 [.slice a6 n6 c6,.int .i64 u.fu,.bool u.up,.int .i64 u.n,.int .i64 u.hv] rfl (World.news_of_block bm.out) (by simp [Value.oneCell']) (by omega) hkm (by have:=HK.out;have:=HM.out;omega) (by omega) _ rfl;have ha4:=zqx (P:=Tryz.prog) _ 36 36 82 W.heap.size irr _ 5 56 Tryz.underlying36 hir rz0 rz1 rz2 rfl (by omega) u6 k vs hrw ⟨w3.heap.size+1,0,none⟩ 1 1 [.slice a6 n6 c6,.int .i64 u.fu,.bool u.up,.int .i64 u.n,.int .i64 u.hv] rfl (World.news_of_block bm.out) (by simp [Value.oneCell']) (by omega) hkm (by have:=HK.out;have:=HM.out;omega) (fun g0 cur0 e0 h0=>hI.out.all g0 cur0 e0 (by rw [←h0];exact(hbq4.block g0 (hrow.lt g0 e0).2).symm)) (zou _ _ _ _ _) (zou _ _ _ _ _) hr4;have HN4:Hid (FUI W ((ims.take (k+1)).map (unF ss)) (k+1) (.slice (some ⟨g,0,none⟩) (k+1) cap) w4):=by
      show FUI _ _ _ _ _
      rw [HTk.out];refine hI.out.next hbq4 ⟨hu6.at_.below hb4,hu6.len,hu6.cap,hu6.max⟩ HL6.out hg4 hat4 (fun vs' hv' => ?_) ha4;have:vs' =vs:=by
        rcases hv'.2 with ⟨e1,e2⟩| ⟨g1,cap1,cur1,e1,-,e3,-,-,-,e4⟩
        { rw [List.eq_nil_of_length_eq_zero (by rw [hv'.1,e2]:vs'.length=0),List.eq_nil_of_length_eq_zero (by rw [hrw.1,e2]:vs.length=0)] }
        {
        rcases hrw.2 with ⟨f1,f2⟩| ⟨g2,cap2,cur2,f1,-,f3,-,-,-,f4⟩
        { rw [e1] at f1;cases f1 }
        { rw [e1] at f1;cases f1;rw [e3] at f3;cases f3;rw [←e4,←f4] }
        }
      rw [this];exact ho4
    have HR4:=hide hr4;clear hr4 ho4 hg4 hat4 hlt4 ha4 hrw hrow hsz hsz2 hkm hbq4 hb4 hbq hb2 hb3 hu6 HOk HTk hI HL6 bm
    go_wp2_with (at_builtin;refine Lib.wpList_append_run _ rfl _ _ 36 36 rfl _ _ rfl rfl _ _ HR4.out ?_)
    go_roundw
    case rel=>exact⟨k+1,by have:=HK.out;omega,by go_num,HN4⟩
    case measure=>have:=HK.out;simp [intOf];omega
    }
    {
    have hkk:k=ni:=by omega
    subst hkk;clear hk hkn;have hv6: ∃a6 n6 c6,u6=Value.slice a6 n6 c6:=by
      obtain ⟨vs,hr,-⟩:=hI.out.row
      rcases hr.2 with ⟨e,-⟩| ⟨g,cap,cur,e,-⟩
      { exact⟨_,_,_,e⟩ }
      { exact⟨_,_,_,e⟩ }
    obtain ⟨a6,n6,c6,rfl⟩:=hv6;have HL:=hide (hI.out.last hw (by rw [List.length_map,List.length_take,HN.out];omega) HM.out);rw [List.take_of_length_le (Nat.le_of_eq HN.out)] at HL;clear hI;go_wp2_with fail;go_ret2;exact HL.out
    }
end
section
open Go.RowKit
def bdP (t:TypeId) (ps:Array (Nat×Value)):Sem Value:=Instr.build t ps
theorem exV_bp (ρ:Operand→Value) (dst:Option Tmp) (x0 x1 x2 x3:Operand) (ty:TypeId) (pos:String) (after:Array Edge) (guard:Option (Nat×Bool)):
    execOp ρ { dst,op:=.build 40 #[(0,x0),(1,x1),(2,x2),(3,x3)],type:=ty,pos,after,guard }= (do pure (.value (←bdP 40 #[(0,ρ x0),(1,ρ x1),(2,ρ x2),(3,ρ x3)]))):=by
  simp only [execOp,bdP,List.map_toArray,List.map_cons,List.map_nil]
attribute [local go_sem ↓] exV_bp Go.wp_at_zero Go.wp_at_succ zhy zhp zhu exG_ld exG_st exG_al
attribute [local go_sem] zgl zgn zgi rdF_V wrF_V rdG_run wrG_run alG_run rdF_G wrF_G zgj World.setRow_alloc_new
def nwV (ss:List ByteArray) (sg:List S2) (r:Rt) (ims:List (List Int)):Vh:=⟨ss,sg,(gNew r ims.length).1,ims.map (unF ss), [], [],0⟩
theorem zj0 {ss:List ByteArray} (h:bookE ss=0):ss.length≤60:=by
  unfold bookE at h
  split at h
  { cases h }
  { omega }
theorem sigE_few {l:List S2} (h:sigE l=0):l.length≤360:=by
  unfold sigE at h
  split at h
  { cases h }
  { omega }
theorem vNew_any (ab:Option Addr) (nb cb:Nat) (ss:List ByteArray) (sa:Option Addr) (ns cs:Nat) (sg:List S2) (r:Rt) (ak:Option Addr) (nk ck:Nat) (ai:Option Addr) (ni ci:Nat) (ims:List (List Int)) (w:World)
    (hb:BB w ab nb cb ss) (hs:BG w sa ns sg) (hr:BI w ak nk r.ks) (hi:BL w ai ni ims) (hT:Tab w) (e1:bookE ss=0) (e2:sigE sg=0) (e3: (gNew r ims.length).2=0) (hok: ∀im∈ims,UnOk ss im) (hn:ni≤1000):
    Calls Tryz.prog 12 #[bookv ab nb cb,.slice sa ns cs,.agg #[.int .i64 r.v,.slice ak nk ck,.int .i64 r.t],.slice ai ni ci] w (DoAns w (nwV ss sg r ims,0)):=by
  have hw:Below w.heap.size w (((w.alloc (.cells #[.slice ab nb cb] 24)).alloc (.cells #[.int .i64 r.v,.slice ak nk ck,.int .i64 r.t] 30)).alloc (.cells (vhC vh0 va0) 40)):=(bA2).alloc (by simp;omega) _;have b0:=hide (zai (zai (heap_alloc_last w (.cells #[.slice ab nb cb] 24)) (.cells #[.int .i64 r.v,.slice ak nk ck,.int .i64 r.t] 30)) (.cells (vhC vh0 va0) 40));have b1:=hide (zai (zau w (.cells #[.slice ab nb cb] 24) (.cells #[.int .i64 r.v,.slice ak nk ck,.int .i64 r.t] 30)) (.cells (vhC vh0 va0) 40));have b2:=hide (zb9 w (.cells #[.slice ab nb cb] 24) (.cells #[.int .i64 r.v,.slice ak nk ck,.int .i64 r.t] 30) (.cells (vhC vh0 va0) 40));have HB:=hide hb;have HS:=hide hs;have HI:=hide hi;have HR:=hide hr;have HT:=hide hT;have HO:=hide hok;have HM:=hide hn;have HN:Hid (ims.length=ni):=hi.len;have E3:=hide e3;have d1: (bookE ss !=0)=false:=by simpa using e1
  have d2: (sigE sg !=0)=false:=by simpa using e2
  have H60:=hide e1;have H36:=hide e2;clear hb hs hr hi hT hok hn e1 e2 e3;unfold bookv;have y0:=zaa b0.out 0 _ rfl;go_enter Tryz.func12,Tryz.ntmps12;go_wp2_with fail;generalize ((w.alloc (.cells #[.slice ab nb cb] 24)).alloc (.cells #[.int .i64 r.v,.slice ak nk ck,.int .i64 r.t] 30)).alloc (.cells (vhC vh0 va0) 40)=W at *;have hB1:=HB.out.below hw;have HC:=hide (zdw ab nb cb ss W hB1.at_ hB1.len hB1.cap hB1.short);unfold bookv at HC;refine(zae HC).mono ?_;rintro e w1 ⟨rfl,hb1⟩;clear HC hB1;have hw1:=bT hw hb1;have HC:=hide (zd3 sa ns cs sg w1 (HS.out.below hw1));clear y0;go_wp2_with fail;refine(zae HC).mono ?_;rintro e w2 ⟨rfl,hb2⟩;clear HC;have hb12:=bT hb1 hb2;have hw2:=bT hw hb12;obtain ⟨z0,z1,z2⟩:w2.cell? ⟨w.heap.size+1,0,none⟩=some (.int .i64 r.v)∧w2.cell? ⟨w.heap.size+1,1,none⟩=some (.slice ak nk ck)∧w2.cell? ⟨w.heap.size+1,2,none⟩=some (.int .i64 r.t):=⟨zaa (zab b1.out hb12) 0 _ rfl,zaa (zab b1.out hb12) 1 _ rfl,zaa (zab b1.out hb12) 2 _ rfl⟩;have HC:=hide (zpt r ak nk ck ni w2 (HR.out.below hw2));clear b1 d1;go_wp2_with fail;refine(zae HC).mono ?_;rintro e w3 ⟨⟨k3,rfl,hg3,hf3⟩,hb3⟩;rw [zud];clear HC d2 z0 z1 z2;have hgn:Hid ((nwV ss sg r ims)= ⟨ss,sg,(gNew r ni).1,ims.map (unF ss), [], [],0⟩):=by show _=_;unfold nwV;rw [HN.out]
  have d3: ((gNew r ni).2 !=0)=false:=by have:=E3.out;rw [HN.out] at this;simpa using this
  clear E3;generalize gNew r ni=q at *;obtain ⟨gt,e3⟩:=q;dsimp only at hg3 hgn d3⊢;have hb4:Below w3.heap.size w3 (w3.alloc (.cells (gaC gt k3) 35)):=bA1;have bg:=hide (heap_alloc_last w3 (.cells (gaC gt k3) 35));have hb34:=bT hb3 hb4;have hb24:=bT hb12 hb34;have hw4:=bT hw hb24;have HG:=hide (hg3.below hb4);have HC:=hide (zi0 ab nb cb ss ai ni ci ims _ (HB.out.below hw4) (HI.out.below hw4) (HT.out.below hw4) HO.out HM.out);have y0:=zaa (zab b0.out hb24) 0 _ rfl;unfold bookv at HC;have hs2:w.heap.size+1+1+1≤w2.heap.size:=by have:=zak b2.out;have:=hb12.size;omega
  have HF:Hid (GFr (w.heap.size+1+1+1) k3):=⟨zal.mono hf3.a hs2,zal.mono hf3.ak hs2,zal.mono hf3.av hs2,zal.mono hf3.ad hs2⟩;clear hs2;have hsz3:w.heap.size+1+1<w3.heap.size:=by have:=zak b2.out;have:=hb12.size;have:=hb3.size;omega
  have HKK:Hid (∀b,((b<w.heap.size∧Sm w b)∨b=w.heap.size+1+1)→b< (w3.alloc (.cells (gaC gt k3) 35)).heap.size∧Sm (w3.alloc (.cells (gaC gt k3) 35)) b):=fun b e=>by
    rcases e with ⟨e1,cs1,t1,e2,e3⟩|e
    { exact⟨Nat.lt_of_lt_of_le e1 hw4.size,cs1,t1,zab e2 hw4,e3⟩ }
    {
    rw [e];exact⟨zak (zab b2.out hb24),_,_,zab b2.out hb24,by show 15<192;decide⟩
    }
  clear hg3 hf3 hb3 hb34 hb4;go_wp2_with fail;generalize (w3.alloc (.cells (gaC gt k3) 35))=W4 at *;refine(zae HC).mono ?_;rintro e w5 ⟨⟨au,nu,cu,rfl,hu5⟩,hb5⟩;clear HC y0;have hb25:=bT hb24 hb5;have hw5:=bT hw hb25;have HU:=hide hu5;replace HG:=hide (HG.out.below hb5);replace bg:=hide (zab bg.out hb5);replace b0:=hide (zab b0.out hb25);replace b2:=hide (zab b2.out hb25);have HTB:=hide (fun W (hW:Below w5.heap.size w5 W)=>zhj ss ab nb cb W (HB.out.below ((bT hw5 hW))) (by have:=zj0 H60.out;have:=HB.out.len;omega));have HCS:=hide (fun W (hW:Below w5.heap.size w5 W)=>zip sa ns cs (sgs sg) W (sgs_row (HS.out.below ((bT hw5 hW))).at_) (by rw [sgs_len,HS.out.len]) (zlr _) (by have:=sigE_few H36.out;have:=HS.out.len;omega));unfold bookv at HTB;have HLS:Hid (sg.length=ns∧ns≤maxLen):=⟨HS.out.len,HS.out.max⟩;have hs45:w3.heap.size<w5.heap.size:=zak bg.out;clear hu5 hb5 hb24 hb25 hb12 hb1 hb2 hw1 hw2 hw4 hw HB HS HI HR HT HO HM HN H60 H36;go_upto_region 13 with fail
  have hd0:Below w5.heap.size w5 w5.drew:=(Below.refl _ _).drew;have HSS:Hid (∀W',Below w5.heap.size w5 W' →W'.cell? ⟨w.heap.size,0,none⟩=some (.slice ab nb cb)∧bk W' w3.heap.size=some (.cells (gaC gt k3) 35 (0,0))):=fun W' hW=>⟨zaa (zab b0.out hW) 0 _ rfl,zab bg.out hW⟩
  refine wp_region_held_drew (S:=fun W' =>W'.cell? ⟨w.heap.size,0,none⟩=some (.slice ab nb cb)∧bk W' w3.heap.size=some (.cells (gaC gt k3) 35 (0,0))) (by kernel_rfl) (HSS.out _ hd0) ?_;intro hHeld;refine Htk (i:=0) ?_
  try simp only [sq]
  refine Htk (i:=2) ?_
  try simp only [sq]
  refine Htk (i:=4) ?_
  try simp only [sq]
  refine Htk (i:=5) ?_
  try simp only [sq]
  refine wpAnyH_ready (rs:= [1]) (by kernel_rfl) (by simp) ?_;refine AllReadyH.cons (by rfl) (fun K hK=> ?_) AllReadyH.nil;go_simp;refine(zae HTB _ hd0).mono ?_;rintro e w6 ⟨⟨g1,hg1,hg2,rfl,hbb⟩,hb6⟩;have hd6:Below w5.heap.size w5 w6:=hd0.trans hb6;refine hK.out _ _ (HSS.out _ hd6) (fun hHeld=> ?_);clear hK K
  try simp only [sq]
  refine wpAnyH_ready (rs:= [3]) (by kernel_rfl) (by simp) ?_;refine AllReadyH.cons (by rfl) (fun K hK=> ?_) AllReadyH.nil;go_simp;refine(zae HCS _ hd6).mono ?_;rintro e w7 ⟨rfl,rfl⟩;have hb7:Below w6.heap.size w6 (w6.alloc (.cells (sgs sg).toArray 111)):=bA1;have hd7:=bT hd6 hb7;have HBB:=hide (hbb.below hb7);have bs7:=hide (heap_alloc_last w6 (.cells (sgs sg).toArray 111));have hsz6:=hd6.size;clear hb6 hb7 hbb HTB HCS;refine hK.out _ _ (HSS.out _ hd7) (fun hHeld=> ?_);clear hK K
  try simp only [sq]
  have hbd:=fun W=>run_build (P:=Tryz.prog) W 40 #[(0,.agg #[.slice (some ⟨g1,0,none⟩) nb nb]),(1,.slice (some ⟨w6.heap.size,0,none⟩) ns ns),(2,.agg (gaC gt k3)),(3,.slice au nu cu)] (vhC ⟨ss,sg,gt,ims.map (unF ss), [], [],0⟩ ⟨some ⟨g1,0,none⟩,nb,nb,some ⟨w6.heap.size,0,none⟩,ns,ns,k3,au,nu,cu,none,0,0,none,0,0⟩) (by kernel_rfl)
  change∀W,(bdP _ _).run _ _=_ at hbd
  refine Htk (i:=6) ?_
  try simp only [sq]
  have h8:=bk_v (zab b2.out hd7);refine wpAnyH_ready (rs:= [7]) (by kernel_rfl) (by simp) ?_;refine AllReadyH.cons (by rfl) (fun K hK=> ?_) AllReadyH.nil;go_simp;have hn3:w3.heap.size≠w.heap.size+1+1:=by omega
  have hch:=zcv (w6.alloc (.cells (sgs sg).toArray 111)) (w.heap.size+1+1) (vhC ⟨ss,sg,gt,ims.map (unF ss), [], [],0⟩ ⟨some ⟨g1,0,none⟩,nb,nb,some ⟨w6.heap.size,0,none⟩,ns,ns,k3,au,nu,cu,none,0,0,none,0,0⟩);have HZ:=hide (setRow_heap (w6.alloc (.cells (sgs sg).toArray 111)) (w.heap.size+1+1) _ (vhC ⟨ss,sg,gt,ims.map (unF ss), [], [],0⟩ ⟨some ⟨g1,0,none⟩,nb,nb,some ⟨w6.heap.size,0,none⟩,ns,ns,k3,au,nu,cu,none,0,0,none,0,0⟩) _ _ (zab b2.out hd7));refine hK.out _ _ (⟨hch.cell hHeld.1 (by show¬w.heap.size=_;omega),hch.blk hHeld.2 hn3⟩) (fun hHeld=> ?_);clear hK K
  try simp only [sq]
  refine Htk (i:=8) ?_
  try simp only [sq]
  refine wpAnyH_done (by kernel_rfl) ?_ _;have HFin:DoAns w (nwV ss sg r ims,0) (.returned (.tuple #[vhv ⟨ss,sg,gt,ims.map (unF ss), [], [],0⟩ ⟨some ⟨g1,0,none⟩,nb,nb,some ⟨w6.heap.size,0,none⟩,ns,ns,k3,au,nu,cu,none,0,0,none,0,0⟩,.int .i64 0])) ((w6.alloc (.cells (sgs sg).toArray 111)).setRow (w.heap.size+1+1) (vhC ⟨ss,sg,gt,ims.map (unF ss), [], [],0⟩ ⟨some ⟨g1,0,none⟩,nb,nb,some ⟨w6.heap.size,0,none⟩,ns,ns,k3,au,nu,cu,none,0,0,none,0,0⟩)):=by
    rw [hgn.out];have hs5:w5.heap.size≤g1:=hg1;have hK: ∀b,((b<w.heap.size∧Sm w b)∨b=w.heap.size+1+1)→b<w.heap.size+1+1+1:=fun b e=>by rcases e with e|e<;>omega
    have hv:VIn (w6.alloc (.cells (sgs sg).toArray 111)) (fun b=>(b<w.heap.size∧Sm w b)∨b=w.heap.size+1+1) ⟨some ⟨g1,0,none⟩,nb,nb,some ⟨w6.heap.size,0,none⟩,ns,ns,k3,au,nu,cu,none,0,0,none,0,0⟩ ⟨ss,sg,gt,ims.map (unF ss), [], [],0⟩:=by
      refine⟨HBB.out,⟨sgs_of (.inr ⟨w6.heap.size,0,rfl,fun j u hu=>by rw [Nat.zero_add];exact zaa bs7.out j u (by simpa using hu)⟩),HLS.out.1,HLS.out.2⟩,HG.out.below hd7,((HU.out.wide UR.off (K' :=fun b=>(b<w.heap.size∧Sm w b)∨b=w.heap.size+1+1) fun b e=>.inl (HKK.out b e)).chg UR.chg (.of hd7 _)),⟨⟨[],.inl rfl,rfl,.inl rfl⟩,rfl,Nat.le_refl _,Nat.zero_le _⟩,⟨⟨[],.inl rfl,rfl,.inl rfl⟩,rfl,Nat.le_refl _,Nat.zero_le _⟩,.at_ (fun e=> ?_),.at_ (fun e=> ?_),.fresh HF.out hK⟩
      { have:=hK _ e;omega }
      { have:=hK _ e;omega }
    have hx:=bT hw5 hd7;exact⟨⟨_,rfl,(hv.chg (hch.mono fun b e=>.inr e)).wide fun b e=>.inl (.inl e)⟩,hx.trans (hch.below (fun b e=>by rw [e];omega) hx.size)⟩
  clear hbd h8 hHeld hch HSS;go_wp2_with fail;refine bodyPost_ret (resV2 rfl rfl rfl HZ.out) rfl ?_;exact HFin
end
end Go.Proofs.YthmekfcgdfckaaaGreatDoor
