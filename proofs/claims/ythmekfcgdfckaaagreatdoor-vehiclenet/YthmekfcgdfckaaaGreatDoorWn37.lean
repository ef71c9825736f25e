/- What the factory's loops keep: rows of one's own, offers in memory. No program in this text. The contract of vehicle.Do: what is not checked. The contract of vehicle.Do: what does not happen. The contract of vehicle.Do: what happens. The contract of vehicle.Do: all of it. -/
import Derived.Test.YthmekfcgdfckaaaGreatDoorWn28
import Derived.Test.YthmekfcgdfckaaaGreatDoorWn36
set_option maxRecDepth 1000000
set_option maxHeartbeats 0
namespace Go.Proofs.YthmekfcgdfckaaaGreatDoor
variable {C K K' :Nat→Prop} {w w' W wr:World} {F B:Nat} {t:TypeId} {v:Value} {vs:List Value} {ls fs' :List (List Int)} {os:List Of} {ss' :List ByteArray} {sg' :List S2}
section
open Go.RowKit
theorem zbt {k n:Nat} (h:w.ownsRow F t k v n vs) (hc:Chg C w w') (hn: ∀g,v.ownBlock=some g→¬C g):w'.ownsRow F t k v n vs:=by
  refine⟨h.1, ?_⟩
  rcases h.2 with h0| ⟨g,cap,cur,e,h1,h2,h3⟩
  { exact .inl h0 }
  { exact .inr ⟨g,cap,cur,e,h1,(hc.block g (zak h2) (hn g (by rw [e];rfl))).trans h2,h3⟩ }
theorem zbg {F' :Nat} {t' :TypeId} {k k' n n' :Nat} {v' :Value} {vs' :List Value} (h:w.ownsRow F t k v n vs) (h' :w.ownsRow F' t' k' v' n' vs') (ht:t≠t'): ∀g,v.ownBlock=some g→v'.ownBlock≠some g:=fun g e e' =>by
  obtain ⟨c,hc⟩:=own_ty h e;obtain ⟨c',hc'⟩:=own_ty h' e';exact ty_ne hc hc' ht rfl
theorem zdd {k n m c:Nat} {a:Option Addr} (h:w.ownsRow F t k (.slice a m c) n vs):IsRow w a vs:=by
  rcases h.2 with ⟨e,e0⟩| ⟨g,cap,cur,e,-⟩
  { exact .inl (List.eq_nil_of_length_eq_zero (by rw [h.1,e0,Nat.zero_mul])) }
  {
  cases e;exact .inr ⟨g,0,rfl,fun j u hu=>by have:=h.cells (g:=g) rfl j u hu;rwa [zc2] at this⟩
  }
def LRow (w:World) (F:Nat) (K:Nat→Prop) (v:Value) (ls:List (List Int)):Prop:=∃vs,w.ownsRow F 26 1 v ls.length vs∧Vs (LR w K) ls vs
theorem LRow.keep (h:LRow w F K v ls) (hc:Chg C w w') (hCK: ∀b,C b→K b) (hn: ∀g,v.ownBlock=some g→¬C g):LRow w' F K v ls:=by
  obtain ⟨vs,h1,h2⟩:=h;exact⟨vs,zbt h1 hc hn,h2.mono (LR.chg (hc.mono hCK))⟩
theorem LRow.wide (h:LRow w F K v ls) (hK: ∀b,K' b→K b∨w.heap.size≤b):LRow w F K' v ls:=by
  obtain ⟨vs,h1,h2⟩:=h;exact⟨vs,h1,h2.mono (LR.off hK)⟩
def OR (w:World) (K:Nat→Prop) (o:Of) (c:List Value):Prop:=
  o.roots= []∧o.rsigs= []∧∃m:OA,c= (ofC o.v o.u m).toList∧m.n1=0∧m.n2=0∧(BT w m.a3 m.n3 o.ts∧Ao o.ts K m.a3)∧(BI w m.a4 m.n4 o.sigs∧Ao o.sigs K m.a4)∧(∃vs,IsRow w m.a5 vs∧Vs (LR w K) o.imgs vs∧Ao vs K m.a5)∧o.imgs.length=m.n5∧m.n5≤maxLen
theorem OR.len (o:Of) (c:List Value) (h:OR w K o c):c.length=7:=by obtain ⟨_,_,_,rfl,_⟩:=h;rfl
theorem OR.chg (hc:Chg K w w') (o:Of) (c:List Value) (h:OR w K o c):OR w' K o c:=by
  obtain ⟨h1,h2,m,e,n1,n2,⟨t1,t2⟩,⟨s1,s2⟩,⟨vs,i1,i2,i3⟩,i4,i5⟩:=h;exact⟨h1,h2,m,e,n1,n2,⟨⟨t1.at_.chg hc t2,t1.len,t1.max⟩,t2⟩,⟨⟨s1.at_.chg hc s2,s1.len,s1.max⟩,s2⟩,⟨vs,i1.chg hc i3,i2.mono (LR.chg hc),i3⟩,i4,i5⟩
theorem OR.off (hK: ∀k,K' k→K k∨w.heap.size≤k) (o:Of) (c:List Value) (h:OR w K o c):OR w K' o c:=by
  obtain ⟨h1,h2,m,e,n1,n2,⟨t1,t2⟩,⟨s1,s2⟩,⟨vs,i1,i2,i3⟩,i4,i5⟩:=h;exact⟨h1,h2,m,e,n1,n2,⟨t1,t1.at_.wide t2 hK⟩,⟨s1,s1.at_.wide s2 hK⟩,⟨vs,i1,i2.mono (LR.off hK),i1.wide i3 hK⟩,i4,i5⟩
def ORow (w:World) (F:Nat) (K:Nat→Prop) (v:Value) (os:List Of):Prop:=∃vs,w.ownsRow F 47 7 v os.length vs∧Vs (OR w K) os vs
theorem ORow.keep (h:ORow w F K v os) (hc:Chg C w w') (hCK: ∀b,C b→K b) (hn: ∀g,v.ownBlock=some g→¬C g):ORow w' F K v os:=by
  obtain ⟨vs,h1,h2⟩:=h;exact⟨vs,zbt h1 hc hn,h2.mono (OR.chg (hc.mono hCK))⟩
theorem ORow.wide (h:ORow w F K v os) (hK: ∀b,K' b→K b∨w.heap.size≤b):ORow w F K' v os:=by
  obtain ⟨vs,h1,h2⟩:=h;exact⟨vs,h1,h2.mono (OR.off hK)⟩
def KO (B:Nat) (tx l f o:Value) (b:Nat):Prop:=b≤B∨tx.ownBlock=some b∨l.ownBlock=some b∨f.ownBlock=some b∨o.ownBlock=some b
structure FO (W:World) (B:Nat) (K:Nat→Prop) (tx l f o:Value) (s:Fo) (wr:World):Prop where
  hB:B+1=W.heap.size
  bel:Below B W wr
  bk:BkS wr W.heap.size B tx s.ss
  lr:wr.ownsRow W.heap.size 111 2 l s.sg.length (sgs s.sg)
  fr:LRow wr W.heap.size K f s.fst
  or:ORow wr W.heap.size K o s.offs
  sub: ∀b,KO B tx l f o b→K b
theorem FO.lo {tx l f o:Value} {s:Fo} (h:FO W B K tx l f o s wr): ∀b,(b=B∨tx.ownBlock=some b∨l.ownBlock=some b∨f.ownBlock=some b∨o.ownBlock=some b)→B≤b:=fun b e=>by
  obtain ⟨vf,hf,-⟩:=h.fr;obtain ⟨vo,ho,-⟩:=h.or;have:=h.hB
  rcases e with e|e|e|e|e
  { omega }
  { have:=h.bk.row.lt b e;omega }
  { have:=h.lr.lt b e;omega }
  { have:=hf.lt b e;omega }
  { have:=ho.lt b e;omega }
theorem FO.wide {tx l f o:Value} {s:Fo} (h:FO W B K tx l f o s wr) (hK: ∀b,K' b→K b∨wr.heap.size≤b) (hs: ∀b,KO B tx l f o b→K' b):FO W B K' tx l f o s wr:=
  ⟨h.hB,h.bel,h.bk,h.lr,h.fr.wide hK,h.or.wide hK,hs⟩
theorem zgo (h:Below B W wr) (hB:B≤W.heap.size) (hc:Chg C wr w') (hlo: ∀b,C b→B≤b):Below B W w' :=h.trans (hc.below hlo (Nat.le_trans hB h.size))
theorem FO.keep {tx l f o:Value} {s:Fo} (h:FO W B K tx l f o s wr) (hc:Chg C wr w') (hCK: ∀b,C b→K b) (hlo: ∀b,C b→B≤b) (hn: ∀b,KO B tx l f o b→¬C b):FO W B K tx l f o s w' :=
  ⟨h.hB,zgo h.bel (by have:=h.hB;omega) hc hlo,⟨(hc.block B (zak h.bk.box) (hn B (.inl (Nat.le_refl _)))).trans h.bk.box,zbt h.bk.row hc (fun g e=>hn g (.inr (.inl e)))⟩,zbt h.lr hc (fun g e=>hn g (.inr (.inr (.inl e)))),h.fr.keep hc hCK (fun g e=>hn g (.inr (.inr (.inr (.inl e))))),h.or.keep hc hCK (fun g e=>hn g (.inr (.inr (.inr (.inr e))))),h.sub⟩
def Nw (w:World) (v v' :Value):Prop:=v'.ownBlock=v.ownBlock∨∃g,v'.ownBlock=some g∧w.heap.size≤g
theorem Nw.or {v' :Value} (h:Nw w v v') {b:Nat} (e:v'.ownBlock=some b):v.ownBlock=some b∨w.heap.size≤b:=by
  rcases h with h| ⟨g,h1,h2⟩
  { exact .inl (by rw [←h];exact e) }
  { rw [h1] at e;cases e;exact .inr h2 }
structure FAp (B:Nat) (tx l f o:Value):Prop where
  bt:tx.ownBlock≠some B
  bl:l.ownBlock≠some B
  bf:f.ownBlock≠some B
  bo:o.ownBlock≠some B
  tl: ∀g,tx.ownBlock=some g→l.ownBlock≠some g
  tf: ∀g,tx.ownBlock=some g→f.ownBlock≠some g
  t_o: ∀g,tx.ownBlock=some g→o.ownBlock≠some g
  lf: ∀g,l.ownBlock=some g→f.ownBlock≠some g
  lo: ∀g,l.ownBlock=some g→o.ownBlock≠some g
  fo: ∀g,f.ownBlock=some g→o.ownBlock≠some g
section
variable {W:World} {B:Nat} {K K' :Nat→Prop} {tx l f o:Value} {s:Fo} {wr w' :World}
theorem FO.ap (h:FO W B K tx l f o s wr):FAp B tx l f o:=by
  obtain ⟨vf,hf,-⟩:=h.fr;obtain ⟨vo,ho,-⟩:=h.or;exact⟨zb1 h.bk.row h.bk.box (by decide),zb1 h.lr h.bk.box (by decide),zb1 hf h.bk.box (by decide),zb1 ho h.bk.box (by decide),zbg h.bk.row h.lr (by decide),zbg h.bk.row hf (by decide),zbg h.bk.row ho (by decide),zbg h.lr hf (by decide),zbg h.lr ho (by decide),zbg hf ho (by decide)⟩
theorem FO.book (h:FO W B K tx l f o s wr) {tx' :Value} (hb:BkS w' W.heap.size B tx' ss') (hc:Chg (fun b=>b=B∨tx.ownBlock=some b) wr w') (hK: ∀b,K' b→K b∨wr.heap.size≤b) (hs: ∀b,KO B tx' l f o b→K' b):FO W B K' tx' l f o ⟨ss',s.sg,s.fst,s.offs⟩ w' :=by
  have a:=h.ap;have hCK: ∀b,(b=B∨tx.ownBlock=some b)→K b:=fun b e=>h.sub b (e.imp Nat.le_of_eq .inl)
  have hlo: ∀b,(b=B∨tx.ownBlock=some b)→B≤b:=fun b e=>h.lo b (e.imp id .inl)
  have hK2: ∀b,K' b→K b∨w'.heap.size≤b∨wr.heap.size≤b:=fun b e=>(hK b e).imp id .inr
  have f1:=(h.fr.wide (K' :=fun b=>K b∨wr.heap.size≤b) fun b e=>e).keep hc (fun b e=>.inl (hCK b e)) (fun g e c=>by rcases c with c|c;exact a.bf (by rw [e,c]);exact a.tf g c e);have o1:=(h.or.wide (K' :=fun b=>K b∨wr.heap.size≤b) fun b e=>e).keep hc (fun b e=>.inl (hCK b e)) (fun g e c=>by rcases c with c|c;exact a.bo (by rw [e,c]);exact a.t_o g c e);exact⟨h.hB,zgo h.bel (by have:=h.hB;omega) hc hlo,hb,zbt h.lr hc (fun g e c=>by rcases c with c|c;exact a.bl (by rw [e,c]);exact a.tl g c e),f1.wide fun b e=>.inl (hK b e),o1.wide fun b e=>.inl (hK b e),hs⟩
theorem FO.sign (h:FO W B K tx l f o s wr) {l' :Value} (hb:w'.ownsRow W.heap.size 111 2 l' sg'.length (sgs sg')) (hc:Chg (fun b=>l.ownBlock=some b) wr w') (hK: ∀b,K' b→K b∨wr.heap.size≤b) (hs: ∀b,KO B tx l' f o b→K' b):FO W B K' tx l' f o ⟨s.ss,sg',s.fst,s.offs⟩ w' :=by
  have a:=h.ap;have hCK: ∀b,l.ownBlock=some b→K b:=fun b e=>h.sub b (.inr (.inr (.inl e)))
  have hlo: ∀b,l.ownBlock=some b→B≤b:=fun b e=>h.lo b (.inr (.inr (.inl e)))
  have f1:=(h.fr.wide (K' :=fun b=>K b∨wr.heap.size≤b) fun b e=>e).keep hc (fun b e=>.inl (hCK b e)) (fun g e c=>a.lf g c e);have o1:=(h.or.wide (K' :=fun b=>K b∨wr.heap.size≤b) fun b e=>e).keep hc (fun b e=>.inl (hCK b e)) (fun g e c=>a.lo g c e);exact⟨h.hB,zgo h.bel (by have:=h.hB;omega) hc hlo,⟨(hc.block B (zak h.bk.box) (fun e=>a.bl e)).trans h.bk.box,zbt h.bk.row hc (fun g e c=>a.tl g e c)⟩,hb,f1.wide fun b e=>.inl (hK b e),o1.wide fun b e=>.inl (hK b e),hs⟩
theorem FO.first (h:FO W B K tx l f o s wr) {f' :Value} (hb:LRow w' W.heap.size (fun b=>K b∨wr.heap.size≤b) f' fs') (hc:Chg (fun b=>f.ownBlock=some b) wr w') (hK: ∀b,K' b→K b∨wr.heap.size≤b) (hs: ∀b,KO B tx l f' o b→K' b):FO W B K' tx l f' o ⟨s.ss,s.sg,fs',s.offs⟩ w' :=by
  have a:=h.ap;have hCK: ∀b,f.ownBlock=some b→K b:=fun b e=>h.sub b (.inr (.inr (.inr (.inl e))))
  have hlo: ∀b,f.ownBlock=some b→B≤b:=fun b e=>h.lo b (.inr (.inr (.inr (.inl e))))
  have o1:=(h.or.wide (K' :=fun b=>K b∨wr.heap.size≤b) fun b e=>e).keep hc (fun b e=>.inl (hCK b e)) (fun g e c=>a.fo g c e);exact⟨h.hB,zgo h.bel (by have:=h.hB;omega) hc hlo,⟨(hc.block B (zak h.bk.box) (fun e=>a.bf e)).trans h.bk.box,zbt h.bk.row hc (fun g e c=>a.tf g e c)⟩,zbt h.lr hc (fun g e c=>a.lf g e c),hb.wide fun b e=>.inl (hK b e),o1.wide fun b e=>.inl (hK b e),hs⟩
theorem FO.offer (h:FO W B K tx l f o s wr) {o' :Value} {os' :List Of} (hb:ORow w' W.heap.size (fun b=>K b∨wr.heap.size≤b) o' os') (hc:Chg (fun b=>o.ownBlock=some b) wr w') (hK: ∀b,K' b→K b∨wr.heap.size≤b) (hs: ∀b,KO B tx l f o' b→K' b):FO W B K' tx l f o' ⟨s.ss,s.sg,s.fst,os'⟩ w' :=by
  have a:=h.ap;have hCK: ∀b,o.ownBlock=some b→K b:=fun b e=>h.sub b (.inr (.inr (.inr (.inr e))))
  have hlo: ∀b,o.ownBlock=some b→B≤b:=fun b e=>h.lo b (.inr (.inr (.inr (.inr e))))
  have f1:=(h.fr.wide (K' :=fun b=>K b∨wr.heap.size≤b) fun b e=>e).keep hc (fun b e=>.inl (hCK b e)) (fun g e c=>a.fo g e c);exact⟨h.hB,zgo h.bel (by have:=h.hB;omega) hc hlo,⟨(hc.block B (zak h.bk.box) (fun e=>a.bo e)).trans h.bk.box,zbt h.bk.row hc (fun g e c=>a.t_o g e c)⟩,zbt h.lr hc (fun g e c=>a.lo g e c),f1.wide fun b e=>.inl (hK b e),hb.wide fun b e=>.inl (hK b e),hs⟩
end
structure FQ where
  tx:Value
  l:Value
  f:Value
  o:Value
  ts:Value
  im:Value
  Bo:Nat
def KI (B:Nat) (q:FQ) (b:Nat):Prop:=KO B q.tx q.l q.f q.o b∨b=q.Bo∨q.ts.ownBlock=some b∨q.im.ownBlock=some b
structure FI (W:World) (B:Nat) (q:FQ) (s:Fo) (i:Fi) (v u:Int) (wr:World):Prop where
  out:FO W B (KI B q) q.tx q.l q.f q.o s wr
  box: ∃bs,wr.heap[q.Bo]?=some (.cells #[.slice none 0 0,.slice none 0 0,.int .i64 v,.int .i64 u,q.ts,.slice (some ⟨bs,0,none⟩) 2 2,q.im] 47 (0,0))∧BI wr (some ⟨bs,0,none⟩) 2 [3,5]∧¬KI B q bs
  tr:wr.ownsRow W.heap.size 163 3 q.ts i.ts.length (tgs i.ts)
  ir:LRow wr W.heap.size (KI B q) q.im i.ims
  n1:q.o.ownBlock≠some q.Bo
  n2: ∀g,q.im.ownBlock=some g→q.f.ownBlock≠some g
  lo:W.heap.size≤q.Bo
  bk:s.ss=i.ss
def obC (v u:Int) (ts im:Value) (bs:Nat):Array Value:=#[.slice none 0 0,.slice none 0 0,.int .i64 v,.int .i64 u,ts,.slice (some ⟨bs,0,none⟩) 2 2,im]
section
variable {W:World} {B:Nat} {q:FQ} {s:Fo} {i:Fi} {v u:Int} {wr w' :World}
theorem FI.apart (h:FI W B q s i v u wr): ∀b,KO B q.tx q.l q.f q.o b→b≠q.Bo∧q.ts.ownBlock≠some b∧q.im.ownBlock≠some b:=by
  obtain ⟨bs,hb,-⟩:=h.box;obtain ⟨vf,hf,-⟩:=h.out.fr;obtain ⟨vo,ho,-⟩:=h.out.or;obtain ⟨vi,hi,-⟩:=h.ir;have:=h.lo;have:=h.out.hB;intro b e
  rcases e with e|e|e|e|e
  { exact⟨by omega,fun c=>by have:=h.tr.lt b c;omega,fun c=>by have:=hi.lt b c;omega⟩ }
  { exact⟨fun c=>zb1 h.out.bk.row hb (by decide) (by rw [←c];exact e),fun c=>zbg h.out.bk.row h.tr (by decide) b e c,fun c=>zbg h.out.bk.row hi (by decide) b e c⟩ }
  { exact⟨fun c=>zb1 h.out.lr hb (by decide) (by rw [←c];exact e),fun c=>zbg h.out.lr h.tr (by decide) b e c,fun c=>zbg h.out.lr hi (by decide) b e c⟩ }
  { exact⟨fun c=>zb1 hf hb (by decide) (by rw [←c];exact e),fun c=>zbg hf h.tr (by decide) b e c,fun c=>h.n2 b c e⟩ }
  { exact⟨fun c=>h.n1 (by rw [←c];exact e),fun c=>zbg ho h.tr (by decide) b e c,fun c=>zbg ho hi (by decide) b e c⟩ }
theorem FI.rest (h:FI W B q s i v u wr) (hc:Chg C wr w') (hC: ∀b,C b→KO B q.tx q.l q.f q.o b) (hK: ∀b,K' b→KI B q b∨wr.heap.size≤b):
    (∃bs,w'.heap[q.Bo]?=some (.cells (obC v u q.ts q.im bs) 47 (0,0))∧BI w' (some ⟨bs,0,none⟩) 2 [3,5]∧¬K' bs)∧w'.ownsRow W.heap.size 163 3 q.ts i.ts.length (tgs i.ts)∧LRow w' W.heap.size K' q.im i.ims:=by
  have a:=h.apart;obtain ⟨bs,hb,h1,h2⟩:=h.box;have hbs:bs<wr.heap.size:=by
    rcases h1.at_ with e| ⟨b,off,e,hc⟩
    { cases e }
    { cases e;exact zah (hc 0 (by simp)) }
  refine⟨⟨bs,(hc.block q.Bo (zak hb) (fun e=>(a _ (hC _ e)).1 rfl)).trans hb,⟨h1.at_.chg hc (.at_ fun e=>h2 (.inl (hC _ e))),h1.len,h1.max⟩,fun e=> ?_⟩,zbt h.tr hc (fun g e c=>(a g (hC g c)).2.1 e), ?_⟩
  {
  rcases hK bs e with e|e
  { exact h2 e }
  { omega }
  }
  { exact((h.ir.wide (K' :=fun b=>KI B q b∨wr.heap.size≤b) fun b e=>e).keep hc (fun b e=>.inl (.inl (hC b e))) (fun g e c=>(a g (hC g c)).2.2 e)).wide fun b e=>.inl (hK b e) }
theorem FI.name (h:FI W B q s i v u wr) {tx' :Value} (hb:BkS w' W.heap.size B tx' ss') (hc:Chg (fun b=>b=B∨q.tx.ownBlock=some b) wr w') (hn:Nw wr q.tx tx'):
    FI W B ⟨tx',q.l,q.f,q.o,q.ts,q.im,q.Bo⟩ ⟨ss',s.sg,s.fst,s.offs⟩ ⟨ss',i.ts,i.ims⟩ v u w' :=by
  have hK: ∀b,KI B ⟨tx',q.l,q.f,q.o,q.ts,q.im,q.Bo⟩ b→KI B q b∨wr.heap.size≤b:=fun b e=>by
    rcases e with (e|e|e)|e
    { exact .inl (.inl (.inl e)) }
    { exact(hn.or e).imp (fun e=>.inl (.inr (.inl e))) id }
    { exact .inl (.inl (.inr (.inr e))) }
    { exact .inl (.inr e) }
  obtain ⟨r1,r2,r3⟩:=h.rest hc (fun b e=>e.imp Nat.le_of_eq .inl) hK;exact⟨h.out.book hb hc hK (fun b e=>.inl e),r1,r2,r3,h.n1,h.n2,h.lo,rfl⟩
theorem FI.sign (h:FI W B q s i v u wr) {l' :Value} (hb:w'.ownsRow W.heap.size 111 2 l' sg'.length (sgs sg')) (hc:Chg (fun b=>q.l.ownBlock=some b) wr w') (hn:Nw wr q.l l'):
    FI W B ⟨q.tx,l',q.f,q.o,q.ts,q.im,q.Bo⟩ ⟨s.ss,sg',s.fst,s.offs⟩ i v u w' :=by
  have hK: ∀b,KI B ⟨q.tx,l',q.f,q.o,q.ts,q.im,q.Bo⟩ b→KI B q b∨wr.heap.size≤b:=fun b e=>by
    rcases e with (e|e|e|e)|e
    { exact .inl (.inl (.inl e)) }
    { exact .inl (.inl (.inr (.inl e))) }
    { exact(hn.or e).imp (fun e=>.inl (.inr (.inr (.inl e)))) id }
    { exact .inl (.inl (.inr (.inr (.inr e)))) }
    { exact .inl (.inr e) }
  obtain ⟨r1,r2,r3⟩:=h.rest hc (fun b e=>.inr (.inr (.inl e))) hK;exact⟨h.out.sign hb hc hK (fun b e=>.inl e),r1,r2,r3,h.n1,h.n2,h.lo,h.bk⟩
theorem FI.first (h:FI W B q s i v u wr) {f' :Value} (hb:LRow w' W.heap.size (fun b=>KI B q b∨wr.heap.size≤b) f' fs') (hc:Chg (fun b=>q.f.ownBlock=some b) wr w') (hn:Nw wr q.f f'):
    FI W B ⟨q.tx,q.l,f',q.o,q.ts,q.im,q.Bo⟩ ⟨s.ss,s.sg,fs',s.offs⟩ i v u w' :=by
  have hK: ∀b,KI B ⟨q.tx,q.l,f',q.o,q.ts,q.im,q.Bo⟩ b→KI B q b∨wr.heap.size≤b:=fun b e=>by
    rcases e with (e|e|e|e|e)|e
    { exact .inl (.inl (.inl e)) }
    { exact .inl (.inl (.inr (.inl e))) }
    { exact .inl (.inl (.inr (.inr (.inl e)))) }
    { exact(hn.or e).imp (fun e=>.inl (.inr (.inr (.inr (.inl e))))) id }
    { exact .inl (.inl (.inr (.inr (.inr (.inr e))))) }
    { exact .inl (.inr e) }
  obtain ⟨r1,r2,r3⟩:=h.rest hc (fun b e=>.inr (.inr (.inr (.inl e)))) hK;obtain ⟨vi,hi,-⟩:=h.ir;refine⟨h.out.first hb hc hK (fun b e=>.inl e),r1,r2,r3,h.n1,fun g e c=> ?_,h.lo,h.bk⟩
  rcases hn.or c with c|c
  { exact h.n2 g e c }
  { have:=(hi.lt g e).2;omega }
end
end
section
open Go.RowKit
attribute [local go_sem ↓] Go.wp_at_zero Go.wp_at_succ
theorem do_bad (v:Vh) (m:VA) (x:Hp) (mo:OA) (w:World) (h:VIn w (fun _=>False) m v) (hT:Tab w) (ho:BO w mo x.o) (he:vhE v≠0):
    Calls Tryz.prog 11 #[vhv v m,hpv x mo] w (DoAns w (doS' v x)):=by
  have hw:=zds w (.cells (aV m v) 40) (.cells (aH x mo) 49) (.cells aZ 40);have b0:=hide (zai (zai (heap_alloc_last w (.cells (aV m v) 40)) (.cells (aH x mo) 49)) (.cells aZ 40));have b1:=hide (zai (zau w (.cells (aV m v) 40) (.cells (aH x mo) 49)) (.cells aZ 40));have b2:=hide (zb9 w (.cells (aV m v) 40) (.cells (aH x mo) 49) (.cells aZ 40));have hsz: (((w.alloc (.cells (aV m v) 40)).alloc (.cells (aH x mo) 49)).alloc (.cells aZ 40)).heap.size=w.heap.size+1+1+1:=by simp
  have HC:=hide (fun W (hW:Below w.heap.size w W)=>zct v m W (h.below hW));have HV:=hide h;have HTb:=hide hT;have HBO:=hide ho;clear h hT ho;unfold vhv vhC at HC;unfold vhv vhC hpv;have D1:=hide (do_e1 (v:=v) (x:=x));go_enter Tryz.func11,Tryz.ntmps11;go_wp2_with fail;generalize (((w.alloc (.cells (aV m v) 40)).alloc (.cells (aH x mo) 49)).alloc (.cells aZ 40))=W1 at *;refine(zae HC _ hw).mono ?_;rintro e w2 ⟨rfl,hb⟩;have hw2:=bT hw hb;replace b0:=hide (zab b0.out hb);replace b1:=hide (zab b1.out hb);replace b2:=hide (zab b2.out hb);have hs2:w.heap.size+3≤w2.heap.size:=by have:=hb.size;omega
  clear HC hw hb hsz;have d: (vhE v !=0)=true:=by simpa using he
  have HE:=hide (D1.out he);clear he;generalize vhE v=y at *;obtain ⟨z0,z1,z2,z3,z4,z5,z6,z7,z8,z9,z10,z11,z12,z13,z14⟩:=cl15 b2.out;obtain ⟨y0,y1,y2,y3,y4,y5,y6,y7,y8,y9,y10,y11,y12,y13,y14⟩:=fr15 b2.out;go_wp2_with fail;refine bodyPost_ret (v:=.tuple #[vhv vh0 va0,.int .i64 y]) (by simp [results,Tryz.results11,go_sem,vhv,vhC,vh0,va0,ga0,gt0,z0,z1,z2,z3,z4,z5,z6,z7,z8,z9,z10,z11,z12,z13,z14]) rfl ?_;have hbF:Below w.heap.size w (puts w2 (w.heap.size+1+1) 0 [.slice none 0 0,.slice none 0 0,.slice none 0 0,.int .i64 0,.bool false,.int .i64 0,.slice none 0 0,.int .i64 0,.int .i64 0,.slice none 0 0,.slice none 0 0,.slice none 0 0,.slice none 0 0,.slice none 0 0,.int .i64 0]):=hw2.trans (zbd _ (by omega) hw2.size);have hfin:DoAns w (doS' v x) (.returned (.tuple #[vhv vh0 va0,.int .i64 y])) (puts w2 (w.heap.size+1+1) 0 [.slice none 0 0,.slice none 0 0,.slice none 0 0,.int .i64 0,.bool false,.int .i64 0,.slice none 0 0,.int .i64 0,.int .i64 0,.slice none 0 0,.slice none 0 0,.slice none 0 0,.slice none 0 0,.slice none 0 0,.int .i64 0]):=by rw [HE.out];exact⟨⟨va0,rfl,vin0 _ _⟩,hbF⟩
  exact hfin
end
section
open Go.RowKit
attribute [local go_sem ↓] Go.wp_at_zero Go.wp_at_succ
theorem do_err (v:Vh) (m:VA) (x:Hp) (mo:OA) (w:World) (h:VIn w (fun _=>False) m v) (hT:Tab w) (ho:BO w mo x.o) (he:vhE v=0) (hze: (hapS v x).2≠0):
    Calls Tryz.prog 11 #[vhv v m,hpv x mo] w (DoAns w (doS' v x)):=by
  have hw:=zds w (.cells (aV m v) 40) (.cells (aH x mo) 49) (.cells aZ 40);have b0:=hide (zai (zai (heap_alloc_last w (.cells (aV m v) 40)) (.cells (aH x mo) 49)) (.cells aZ 40));have b1:=hide (zai (zau w (.cells (aV m v) 40) (.cells (aH x mo) 49)) (.cells aZ 40));have b2:=hide (zb9 w (.cells (aV m v) 40) (.cells (aH x mo) 49) (.cells aZ 40));have hsz: (((w.alloc (.cells (aV m v) 40)).alloc (.cells (aH x mo) 49)).alloc (.cells aZ 40)).heap.size=w.heap.size+1+1+1:=by simp
  have HC:=hide (fun W (hW:Below w.heap.size w W)=>zct v m W (h.below hW));have HV:=hide h;have HTb:=hide hT;have HBO:=hide ho;clear h hT ho;unfold vhv vhC at HC;unfold vhv vhC hpv;have D1:=hide (do_e1 (v:=v) (x:=x));have D2:=hide (do_e2 (v:=v) (x:=x));have D3:=hide (do_0 (v:=v) (x:=x));go_enter Tryz.func11,Tryz.ntmps11;go_wp2_with fail;generalize (((w.alloc (.cells (aV m v) 40)).alloc (.cells (aH x mo) 49)).alloc (.cells aZ 40))=W1 at *;refine(zae HC _ hw).mono ?_;rintro e w2 ⟨rfl,hb⟩;have hw2:=bT hw hb;replace b0:=hide (zab b0.out hb);replace b1:=hide (zab b1.out hb);replace b2:=hide (zab b2.out hb);have hs2:w.heap.size+3≤w2.heap.size:=by have:=hb.size;omega
  clear HC hw hb hsz;have d: (vhE v !=0)=false:=by simpa using he
  have HF:=hide (zec he);have HE0:=hide he;clear he;have HTw:=hide (zhm v m (fun _=>False) w2 (HV.out.below hw2) (HF.out.small HV.out));unfold vhv vhC at HTw;generalize vhE v=y at *;obtain ⟨x0,x1,x2,x3,x4,x5,x6,x7,x8,x9,x10,x11,x12,x13,x14⟩:=cl15 b0.out;go_wp2_with fail;refine(zae HTw).mono ?_;rintro e w3 ⟨⟨m3,bu,bc,bn,rfl,hvt⟩,hb3⟩;unfold vhv vhC;have hbo:Below w3.heap.size w3 (w3.alloc (.cells (aV m3 v) 40)):=bA1;have hb4:Below w2.heap.size w2 (w3.alloc (.cells (aV m3 v) 40)):=bT hb3 hbo;have HO:Hid (VOwn (w3.alloc (.cells (aV m3 v) 40)) w2.heap.size (fun b=>b<w2.heap.size∧Sm w2 b) ⟨w3.heap.size,bu,bc,bn⟩ m3 v):=hvt.own hb3.size (fun b e=>e.1);have HOk:Hid (VOk (w3.alloc (.cells (aV m3 v) 40)) w2.heap.size (fun b=>b<w2.heap.size∧Sm w2 b) m3 v):=by
    have hul:v.us.length=v.g.vo.length:=by
      have:=HF.out.us;unfold unsE at this
      split at this
      { cases this }
      { rename_i h1;exact Classical.byContradiction fun e=>h1 e }
    have hvo:=(zen HF.out.gt).2.1;have hm:=HF.out.many;have c1:=hvt.cap;have c2:=hvt.us.len;have c3:=hvt.cs.len;have c4:=hvt.net.len;exact⟨⟨by omega,by omega,by omega⟩,by omega,HF.out.us,HF.out.net,fun b e=>by obtain ⟨cs,t,s1,s2⟩:=e.2;exact⟨cs,t,by rw [hb4.block b e.1];exact s1,s2⟩,fun b e=>e.1,fun W hW=>HTb.out.below (hw2.trans ((hb4.trans hW).mono hw2.size))⟩
  have HH:=hide (zjl w2.heap.size (fun b=>b<w2.heap.size∧Sm w2 b) ⟨w3.heap.size,bu,bc,bn⟩ m3 v x mo _ HO.out HOk.out HF.out.gt (fun y hy=>by have:=(zic (zhn HF.out.net hy).1).2;omega) HF.out.now (fun W hW=>HBO.out.below (hw2.trans ((hb4.trans hW).mono hw2.size))));unfold hpv at HH;have b1' :=hide (zab (zab b1.out hb3) hbo);clear x0 x1 x2 x3 x4 x5 x6 x7 x8 x9 x10 x11 x12 x13 x14 HTw hvt HOk hbo;have p0:=zaa b1'.out 0 _ rfl;have p1:=zaa b1'.out 1 _ rfl;have p2:=zaa b1'.out 2 _ rfl;have p3:=zaa b1'.out 3 _ rfl;have p4:=zaa b1'.out 4 _ rfl;have p5:=zaa b1'.out 5 _ rfl;have p6:=zaa b1'.out 6 _ rfl;have p7:=zaa b1'.out 7 _ rfl;have p8:=zaa b1'.out 8 _ rfl;have p9:=zaa b1'.out 9 _ rfl;go_upto_region 5 with fail
  generalize w3.alloc (.cells (aV m3 v) 40)=W4 at *;go_wp2_with fail;refine(zae HH).mono ?_;intro e w5 hv;obtain ⟨z,hz,rfl,hv2⟩:=zcn hv;have hb5:Below w2.heap.size w2 w5:=hb4.trans hv2.2.1;replace b2:=hide (show w5.heap[w.heap.size+1+1]?=some (.cells aZ 40 (0,0)) from by rw [hb5.block _ (by omega)];exact b2.out);have hbw:Below w.heap.size w w5:=bT hw2 hb5;have hvo:=hv2.2.2;clear hv hv2 HH p0 p1 p2 p3 p4 p5 p6 p7 p8 p9 b0 b1 b1';have hz0:z≠0:=by rw [hz];exact hze
  clear hze;have d2: (z !=0)=true:=by simpa using hz0
  have HE:=hide (D2.out HE0.out (by rw [←hz];exact hz0));rw [←hz] at HE;clear hz hz0 hvo;obtain ⟨z0,z1,z2,z3,z4,z5,z6,z7,z8,z9,z10,z11,z12,z13,z14⟩:=cl15 b2.out;obtain ⟨y0,y1,y2,y3,y4,y5,y6,y7,y8,y9,y10,y11,y12,y13,y14⟩:=fr15 b2.out;go_wp2_with fail;refine bodyPost_ret (v:=.tuple #[vhv vh0 va0,.int .i64 z]) (by simp [results,Tryz.results11,go_sem,vhv,vhC,vh0,va0,ga0,gt0,z0,z1,z2,z3,z4,z5,z6,z7,z8,z9,z10,z11,z12,z13,z14]) rfl ?_;have hbF:Below w.heap.size w (puts w5 (w.heap.size+1+1) 0 [.slice none 0 0,.slice none 0 0,.slice none 0 0,.int .i64 0,.bool false,.int .i64 0,.slice none 0 0,.int .i64 0,.int .i64 0,.slice none 0 0,.slice none 0 0,.slice none 0 0,.slice none 0 0,.slice none 0 0,.int .i64 0]):=hbw.trans (zbd _ (by omega) hbw.size);have hfin:DoAns w (doS' v x) (.returned (.tuple #[vhv vh0 va0,.int .i64 z])) (puts w5 (w.heap.size+1+1) 0 [.slice none 0 0,.slice none 0 0,.slice none 0 0,.int .i64 0,.bool false,.int .i64 0,.slice none 0 0,.int .i64 0,.int .i64 0,.slice none 0 0,.slice none 0 0,.slice none 0 0,.slice none 0 0,.slice none 0 0,.int .i64 0]):=by rw [HE.out];exact⟨⟨va0,rfl,vin0 _ _⟩,hbF⟩
  exact hfin
end
section
open Go.RowKit
attribute [local go_sem ↓] Go.wp_at_zero Go.wp_at_succ
theorem do_ok (v:Vh) (m:VA) (x:Hp) (mo:OA) (w:World) (h:VIn w (fun _=>False) m v) (hT:Tab w) (ho:BO w mo x.o) (he:vhE v=0) (hze: (hapS v x).2=0):
    Calls Tryz.prog 11 #[vhv v m,hpv x mo] w (DoAns w (doS' v x)):=by
  have hw:=zds w (.cells (aV m v) 40) (.cells (aH x mo) 49) (.cells aZ 40);have b0:=hide (zai (zai (heap_alloc_last w (.cells (aV m v) 40)) (.cells (aH x mo) 49)) (.cells aZ 40));have b1:=hide (zai (zau w (.cells (aV m v) 40) (.cells (aH x mo) 49)) (.cells aZ 40));have b2:=hide (zb9 w (.cells (aV m v) 40) (.cells (aH x mo) 49) (.cells aZ 40));have hsz: (((w.alloc (.cells (aV m v) 40)).alloc (.cells (aH x mo) 49)).alloc (.cells aZ 40)).heap.size=w.heap.size+1+1+1:=by simp
  have HC:=hide (fun W (hW:Below w.heap.size w W)=>zct v m W (h.below hW));have HV:=hide h;have HTb:=hide hT;have HBO:=hide ho;clear h hT ho;unfold vhv vhC at HC;unfold vhv vhC hpv;have D1:=hide (do_e1 (v:=v) (x:=x));have D2:=hide (do_e2 (v:=v) (x:=x));have D3:=hide (do_0 (v:=v) (x:=x));go_enter Tryz.func11,Tryz.ntmps11;go_wp2_with fail;generalize (((w.alloc (.cells (aV m v) 40)).alloc (.cells (aH x mo) 49)).alloc (.cells aZ 40))=W1 at *;refine(zae HC _ hw).mono ?_;rintro e w2 ⟨rfl,hb⟩;have hw2:=bT hw hb;replace b0:=hide (zab b0.out hb);replace b1:=hide (zab b1.out hb);replace b2:=hide (zab b2.out hb);have hs2:w.heap.size+3≤w2.heap.size:=by have:=hb.size;omega
  clear HC hw hb hsz;have d: (vhE v !=0)=false:=by simpa using he
  have HF:=hide (zec he);have HE0:=hide he;clear he;have HTw:=hide (zhm v m (fun _=>False) w2 (HV.out.below hw2) (HF.out.small HV.out));unfold vhv vhC at HTw;generalize vhE v=y at *;obtain ⟨x0,x1,x2,x3,x4,x5,x6,x7,x8,x9,x10,x11,x12,x13,x14⟩:=cl15 b0.out;go_wp2_with fail;refine(zae HTw).mono ?_;rintro e w3 ⟨⟨m3,bu,bc,bn,rfl,hvt⟩,hb3⟩;unfold vhv vhC;have hbo:Below w3.heap.size w3 (w3.alloc (.cells (aV m3 v) 40)):=bA1;have hb4:Below w2.heap.size w2 (w3.alloc (.cells (aV m3 v) 40)):=bT hb3 hbo;have HO:Hid (VOwn (w3.alloc (.cells (aV m3 v) 40)) w2.heap.size (fun b=>b<w2.heap.size∧Sm w2 b) ⟨w3.heap.size,bu,bc,bn⟩ m3 v):=hvt.own hb3.size (fun b e=>e.1);have HOk:Hid (VOk (w3.alloc (.cells (aV m3 v) 40)) w2.heap.size (fun b=>b<w2.heap.size∧Sm w2 b) m3 v):=by
    have hul:v.us.length=v.g.vo.length:=by
      have:=HF.out.us;unfold unsE at this
      split at this
      { cases this }
      { rename_i h1;exact Classical.byContradiction fun e=>h1 e }
    have hvo:=(zen HF.out.gt).2.1;have hm:=HF.out.many;have c1:=hvt.cap;have c2:=hvt.us.len;have c3:=hvt.cs.len;have c4:=hvt.net.len;exact⟨⟨by omega,by omega,by omega⟩,by omega,HF.out.us,HF.out.net,fun b e=>by obtain ⟨cs,t,s1,s2⟩:=e.2;exact⟨cs,t,by rw [hb4.block b e.1];exact s1,s2⟩,fun b e=>e.1,fun W hW=>HTb.out.below (hw2.trans ((hb4.trans hW).mono hw2.size))⟩
  have HH:=hide (zjl w2.heap.size (fun b=>b<w2.heap.size∧Sm w2 b) ⟨w3.heap.size,bu,bc,bn⟩ m3 v x mo _ HO.out HOk.out HF.out.gt (fun y hy=>by have:=(zic (zhn HF.out.net hy).1).2;omega) HF.out.now (fun W hW=>HBO.out.below (hw2.trans ((hb4.trans hW).mono hw2.size))));unfold hpv at HH;have b1' :=hide (zab (zab b1.out hb3) hbo);clear x0 x1 x2 x3 x4 x5 x6 x7 x8 x9 x10 x11 x12 x13 x14 HTw hvt HOk hbo;have p0:=zaa b1'.out 0 _ rfl;have p1:=zaa b1'.out 1 _ rfl;have p2:=zaa b1'.out 2 _ rfl;have p3:=zaa b1'.out 3 _ rfl;have p4:=zaa b1'.out 4 _ rfl;have p5:=zaa b1'.out 5 _ rfl;have p6:=zaa b1'.out 6 _ rfl;have p7:=zaa b1'.out 7 _ rfl;have p8:=zaa b1'.out 8 _ rfl;have p9:=zaa b1'.out 9 _ rfl;go_upto_region 5 with fail
  generalize w3.alloc (.cells (aV m3 v) 40)=W4 at *;go_wp2_with fail;refine(zae HH).mono ?_;intro e w5 hv;obtain ⟨z,hz,rfl,hv2⟩:=zcn hv;have hb5:Below w2.heap.size w2 w5:=hb4.trans hv2.2.1;replace b2:=hide (show w5.heap[w.heap.size+1+1]?=some (.cells aZ 40 (0,0)) from by rw [hb5.block _ (by omega)];exact b2.out);have hbw:Below w.heap.size w w5:=bT hw2 hb5;have hvo:=hv2.2.2;clear hv hv2 HH p0 p1 p2 p3 p4 p5 p6 p7 p8 p9 b0 b1 b1';have hz0:z=0:=by rw [hz];exact hze
  clear hze;have d2: (z !=0)=false:=by simpa using hz0
  have HE:=hide (D3.out HE0.out (by rw [←hz];exact hz0));obtain ⟨q5,m5,hq5,H5⟩:=hvo (by rw [←hz];exact hz0);have hq6:q5.B=w3.heap.size:=hq5;have hbx:=H5.box;rw [hq6] at hbx;have HVn:=hide H5.vin
  have hr0:Hid ((hapS v x).2=0):=by rw [←hz];exact hz0
  clear hz hz0 hvo H5;generalize hapS v x=r at *;have hsm:Sm w2 (w.heap.size+1+1):=⟨_,_,by rw [←hb5.block _ (by omega)];exact b2.out,by decide⟩;have hne:w.heap.size+1+1≠w3.heap.size:=by have:=hb3.size;omega
  have x0:=zaa hbx 0 (.slice m5.ab m5.nb m5.cb) rfl;have x1:=zaa hbx 1 (.slice m5.sa m5.ns m5.cs) rfl;have x2:=zaa hbx 2 (.slice m5.g.a m5.g.n m5.g.c) rfl;have x3:=zaa hbx 3 (.int .i64 r.1.g.fu) rfl;have x4:=zaa hbx 4 (.bool r.1.g.up) rfl;have x5:=zaa hbx 5 (.int .i64 r.1.g.t.r.v) rfl;have x6:=zaa hbx 6 (.slice m5.g.ak m5.g.nk m5.g.ck) rfl;have x7:=zaa hbx 7 (.int .i64 r.1.g.t.r.t) rfl;have x8:=zaa hbx 8 (.int .i64 r.1.g.t.ver) rfl;have x9:=zaa hbx 9 (.slice m5.g.av m5.g.nv m5.g.cv) rfl;have x10:=zaa hbx 10 (.slice m5.g.ad m5.g.nd m5.g.cd) rfl;have x11:=zaa hbx 11 (.slice m5.au m5.nu m5.cu) rfl;have x12:=zaa hbx 12 (.slice m5.ac m5.nc m5.cc) rfl;have x13:=zaa hbx 13 (.slice m5.an m5.nn m5.cn) rfl;have x14:=zaa hbx 14 (.int .i64 r.1.now) rfl;obtain ⟨z0,z1,z2,z3,z4,z5,z6,z7,z8,z9,z10,z11,z12,z13,z14⟩:=cl15 b2.out;obtain ⟨y0,y1,y2,y3,y4,y5,y6,y7,y8,y9,y10,y11,y12,y13,y14⟩:=fr15 b2.out;clear hbx b2 hq5 hq6;go_wp2_with fail;refine bodyPost_ret (v:=.tuple #[vhv r.1 m5,.int .i64 0]) (by simp [results,Tryz.results11,go_sem,vhv,vhC,z0,z1,z2,z3,z4,z5,z6,z7,z8,z9,z10,z11,z12,z13,z14]) rfl ?_;have hc6:Chg (fun b=>b=w.heap.size+1+1) w5 (puts w5 (w.heap.size+1+1) 0 [.slice m5.ab m5.nb m5.cb,.slice m5.sa m5.ns m5.cs,.slice m5.g.a m5.g.n m5.g.c,.int .i64 r.1.g.fu,.bool r.1.g.up,.int .i64 r.1.g.t.r.v,.slice m5.g.ak m5.g.nk m5.g.ck,.int .i64 r.1.g.t.r.t,.int .i64 r.1.g.t.ver,.slice m5.g.av m5.g.nv m5.g.cv,.slice m5.g.ad m5.g.nd m5.g.cd,.slice m5.au m5.nu m5.cu,.slice m5.ac m5.nc m5.cc,.slice m5.an m5.nn m5.cn,.int .i64 r.1.now]):=zbn _ _ _ _;have hbF:Below w.heap.size w (puts w5 (w.heap.size+1+1) 0 [.slice m5.ab m5.nb m5.cb,.slice m5.sa m5.ns m5.cs,.slice m5.g.a m5.g.n m5.g.c,.int .i64 r.1.g.fu,.bool r.1.g.up,.int .i64 r.1.g.t.r.v,.slice m5.g.ak m5.g.nk m5.g.ck,.int .i64 r.1.g.t.r.t,.int .i64 r.1.g.t.ver,.slice m5.g.av m5.g.nv m5.g.cv,.slice m5.g.ad m5.g.nd m5.g.cd,.slice m5.au m5.nu m5.cu,.slice m5.ac m5.nc m5.cc,.slice m5.an m5.nn m5.cn,.int .i64 r.1.now]):=hbw.trans (zbd _ (by omega) hbw.size);have hvf:VIn (puts w5 (w.heap.size+1+1) 0 [.slice m5.ab m5.nb m5.cb,.slice m5.sa m5.ns m5.cs,.slice m5.g.a m5.g.n m5.g.c,.int .i64 r.1.g.fu,.bool r.1.g.up,.int .i64 r.1.g.t.r.v,.slice m5.g.ak m5.g.nk m5.g.ck,.int .i64 r.1.g.t.r.t,.int .i64 r.1.g.t.ver,.slice m5.g.av m5.g.nv m5.g.cv,.slice m5.g.ad m5.g.nd m5.g.cd,.slice m5.au m5.nu m5.cu,.slice m5.ac m5.nc m5.cc,.slice m5.an m5.nn m5.cn,.int .i64 r.1.now]) (fun b=>b<w.heap.size∧Sm w b) m5 r.1:=(HVn.out.chg (hc6.mono fun b e=>by rw [e];exact⟨by omega,hsm⟩)).wide (fun b e=>.inl ⟨by omega,by obtain ⟨cs,t,s1,s2⟩:=e.2;exact⟨cs,t,by rw [hw2.block b e.1];exact s1,s2⟩⟩);have hfin:DoAns w (doS' v x) (.returned (.tuple #[vhv r.1 m5,.int .i64 0])) (puts w5 (w.heap.size+1+1) 0 [.slice m5.ab m5.nb m5.cb,.slice m5.sa m5.ns m5.cs,.slice m5.g.a m5.g.n m5.g.c,.int .i64 r.1.g.fu,.bool r.1.g.up,.int .i64 r.1.g.t.r.v,.slice m5.g.ak m5.g.nk m5.g.ck,.int .i64 r.1.g.t.r.t,.int .i64 r.1.g.t.ver,.slice m5.g.av m5.g.nv m5.g.cv,.slice m5.g.ad m5.g.nd m5.g.cd,.slice m5.au m5.nu m5.cu,.slice m5.ac m5.nc m5.cc,.slice m5.an m5.nn m5.cn,.int .i64 r.1.now]):=by rw [HE.out];exact⟨⟨m5,by rw [hr0.out],hvf⟩,hbF⟩
  exact hfin
end
section
open Go.RowKit
attribute [local go_sem ↓] Go.wp_at_zero Go.wp_at_succ
theorem do_any (v:Vh) (m:VA) (x:Hp) (mo:OA) (w:World) (h:VIn w (fun _=>False) m v) (hT:Tab w) (ho:BO w mo x.o):
    Calls Tryz.prog 11 #[vhv v m,hpv x mo] w (DoAns w (doS' v x)):=by
  by_cases he:vhE v=0
  {
  by_cases hz: (hapS v x).2=0
  { exact do_ok v m x mo w h hT ho he hz }
  { exact do_err v m x mo w h hT ho he hz }
  }
  {
  exact do_bad v m x mo w h hT ho he
  }
end
end Go.Proofs.YthmekfcgdfckaaaGreatDoor
