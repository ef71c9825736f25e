/- Vehicles in memory: rows of cells ('IsRow', 'Vs'), what is changed in some blocks alone ('Chg', 'AO'), a vehicle that comes in ('VIn'), one's own ('VOwn'). The contract of slices.Repeat at one word, some times. What vehicle.New, and the statements' factory, say, as plain functions: 'facU', 'newV', 'facS', 'facV', 'facO'. No program in this text. Appending to a row of one's own: what all its cells are like, the spare ones too ('AllC'). 'make' and 'copy' of a row of elements of k cells. No program in this text. The contracts of vehicle.copied, at each type. -/
import Derived.Test.YthmekfcgdfckaaaGreatDoorWt25
import Derived.Test.YthmekfcgdfckaaaGreatDoorWt26
import Derived.Test.YthmekfcgdfckaaaGreatDoorWt17
import Derived.Laws.OwnMore
import Derived.Deep.RegionHeld3
import Derived.Laws.CopyOwn
import Derived.Test.YthmekfcgdfckaaaGreatDoorWt8
import Derived.Lib.AppendZeros
import Derived.Deep.AppendLies
import Derived.Laws.CopyRow
import Derived.Laws.MakeOwn
set_option maxRecDepth 1000000
set_option maxHeartbeats 0
namespace Go.Proofs.YthmekfcgdfckaaaGreatDoor
variable {K K' :Nat→Prop} {a:Option Addr} {w w' :World} {xs:List ByteArray} {vs:List Value} {k i:Nat}
section
open Go.RowKit
structure Chg (K:Nat→Prop) (w w' :World):Prop where
  os:w'.os=w.os
  tape:w'.tape=w.tape
  output:w'.output=w.output
  size:w.heap.size≤w'.heap.size
  block: ∀k,k<w.heap.size→¬K k→w'.heap[k]?=w.heap[k]?
theorem Chg.refl (K:Nat→Prop) (w:World):Chg K w w:=⟨rfl,rfl,rfl,Nat.le_refl _,fun _ _ _=>rfl⟩
theorem Chg.trans {a b c:World} (h:Chg K a b) (k:Chg K b c):Chg K a c:=
  ⟨k.os.trans h.os,k.tape.trans h.tape,k.output.trans h.output,Nat.le_trans h.size k.size,fun j hj hK=>(k.block j (Nat.lt_of_lt_of_le hj h.size) hK).trans (h.block j hj hK)⟩
theorem Chg.of (h:Below w.heap.size w w') (K:Nat→Prop):Chg K w w' :=⟨h.os,h.tape,h.output,h.size,fun k hk _=>h.block k hk⟩
theorem Chg.grown {r:Option Nat} (h:w.grownBy w' r) (hK: ∀b,r=some b→K b):Chg K w w' :=
  ⟨h.os,h.tape,h.output,h.size,fun k hk hn=>h.block k hk (fun e=>hn (hK k e.symm))⟩
theorem Chg.set (h:Chg K w w') {p:Addr} (hp:K p.block) (u:Value):Chg K w (w'.setCell p u):=
  h.trans ⟨rfl,rfl,rfl,by simp [World.setCell],fun k _ hn=>Below.heap_setCell _ _ _ _ (fun e=>hn (e▸hp))⟩
theorem Chg.alloc (h:Chg K w w') (o:Obj):Chg K w (w'.alloc o):=h.trans (.of (bA1) K)
theorem Chg.drew (h:Chg K w w'):Chg K w w'.drew:=⟨h.os,h.tape,h.output,h.size,h.block⟩
theorem Chg.then {a:World} (h:Chg K a w) (hb:Below w.heap.size w w'):Chg K a w' :=h.trans (.of hb K)
theorem Chg.below {F:Nat} (h:Chg K w w') (hK: ∀k,K k→F≤k) (hF:F≤w.heap.size):Below F w w' :=
  ⟨h.os,h.tape,h.output,h.size,fun k hk=>h.block k (Nat.lt_of_lt_of_le hk hF) (fun e=>by have:=hK k e;omega)⟩
theorem Chg.blk {b:Nat} {o:Obj} (h:w.heap[b]?=some o) (hc:Chg K w w') (hb: ¬K b):w'.heap[b]?=some o:=by
  rw [hc.block b (zak h) hb];exact h
theorem Chg.cell {p:Addr} {v:Value} (hc:Chg K w w') (h:w.cell? p=some v) (hb: ¬K p.block):w'.cell? p=some v:=by
  rw [World.cell?_of_block (hc.block p.block (zah h) hb)];exact h
theorem Chg.mono (h:Chg K w w') (hK: ∀k,K k→K' k):Chg K' w w' :=⟨h.os,h.tape,h.output,h.size,fun k hk hn=>h.block k hk (fun e=>hn (hK k e))⟩
def Ao {β:Type} (l:List β) (K:Nat→Prop) (a:Option Addr):Prop:=l= []∨∀ad,a=some ad→¬K ad.block
theorem Ao.nil {β:Type} (K:Nat→Prop) (a:Option Addr):Ao ([]:List β) K a:=.inl rfl
theorem Ao.no {β:Type} {l:List β} :Ao l (fun _=>False) a:=.inr fun _ _ h=>h
theorem Ao.mono {β:Type} {l:List β} (h:Ao l K a) (hK: ∀k,K' k→K k):Ao l K' a:=h.imp id fun h ad e hk=>h ad e (hK _ hk)
theorem Ao.fresh {β:Type} {l:List β} {F:Nat} (h:zal F a) (hK: ∀k,K k→k<F):Ao l K a:=.inr fun ad e hk=>by have:=h ad e;have:=hK _ hk;omega
theorem Ao.at_ {β:Type} {l:List β} {b off:Nat} (h: ¬K b):Ao l K (some ⟨b,off,none⟩):=.inr fun ad e=>by cases e;exact h
theorem zag.chg {xs:List Int} (h:zag w a xs) (hc:Chg K w w') (ha:Ao xs K a):zag w' a xs:=by
  rcases ha with ha|ha
  { exact .inl ha }
  rcases h with h| ⟨b,off,rfl,hi⟩
  { exact .inl h }
  { exact .inr ⟨b,off,rfl,fun i hl=>hc.cell (hi i hl) (ha ⟨b,off,none⟩ rfl)⟩ }
theorem zag.wide {xs:List Int} (h:zag w a xs) (ha:Ao xs K a) (hK: ∀b,K' b→K b∨w.heap.size≤b):Ao xs K' a:=by
  cases xs with
  |nil=>exact .inl rfl
  |cons x r=>
    rcases ha with ha|ha
    { cases ha }
    rcases h with h| ⟨b,off,rfl,hi⟩
    { cases h }
    {
    have hl:b<w.heap.size:=zah (hi 0 (by simp));exact .inr fun ad e hk=>by cases e;rcases hK _ hk with h|h;exact ha _ rfl h;exact absurd h (by show¬_≤b;omega)
    }
theorem zbz.chg {xs:List Bool} (h:zbz w a xs) (hc:Chg K w w') (ha:Ao xs K a):zbz w' a xs:=by
  rcases ha with ha|ha
  { exact .inl ha }
  rcases h with h| ⟨b,off,rfl,hi⟩
  { exact .inl h }
  { exact .inr ⟨b,off,rfl,fun i hl=>hc.cell (hi i hl) (ha ⟨b,off,none⟩ rfl)⟩ }
theorem zbz.wide {xs:List Bool} (h:zbz w a xs) (ha:Ao xs K a) (hK: ∀b,K' b→K b∨w.heap.size≤b):Ao xs K' a:=by
  cases xs with
  |nil=>exact .inl rfl
  |cons x r=>
    rcases ha with ha|ha
    { cases ha }
    rcases h with h| ⟨b,off,rfl,hi⟩
    { cases h }
    {
    have hl:b<w.heap.size:=zah (hi 0 (by simp));exact .inr fun ad e hk=>by cases e;rcases hK _ hk with h|h;exact ha _ rfl h;exact absurd h (by show¬_≤b;omega)
    }
theorem za1.chg (h:za1 w a xs) (hc:Chg K w w') (ha:Ao xs K a):za1 w' a xs:=by
  rcases ha with ha|ha
  { exact .inl ha }
  rcases h with h| ⟨b,off,rfl,hi⟩
  { exact .inl h }
  { exact .inr ⟨b,off,rfl,fun i hl=>hc.cell (hi i hl) (ha ⟨b,off,none⟩ rfl)⟩ }
theorem za1.wide (h:za1 w a xs) (ha:Ao xs K a) (hK: ∀b,K' b→K b∨w.heap.size≤b):Ao xs K' a:=by
  cases xs with
  |nil=>exact .inl rfl
  |cons x r=>
    rcases ha with ha|ha
    { cases ha }
    rcases h with h| ⟨b,off,rfl,hi⟩
    { cases h }
    {
    have hl:b<w.heap.size:=zah (hi 0 (by simp));exact .inr fun ad e hk=>by cases e;rcases hK _ hk with h|h;exact ha _ rfl h;exact absurd h (by show¬_≤b;omega)
    }
theorem zcr.chg {xs:List S2} (h:zcr w a xs) (hc:Chg K w w') (ha:Ao xs K a):zcr w' a xs:=by
  rcases ha with ha|ha
  { exact .inl ha }
  rcases h with h| ⟨b,off,rfl,hi⟩
  { exact .inl h }
  { exact .inr ⟨b,off,rfl,fun i s hl=>⟨hc.cell (hi i s hl).1 (ha ⟨b,off,none⟩ rfl),hc.cell (hi i s hl).2 (ha ⟨b,off,none⟩ rfl)⟩⟩ }
theorem zcr.wide {xs:List S2} (h:zcr w a xs) (ha:Ao xs K a) (hK: ∀b,K' b→K b∨w.heap.size≤b):Ao xs K' a:=by
  cases xs with
  |nil=>exact .inl rfl
  |cons x r=>
    rcases ha with ha|ha
    { cases ha }
    rcases h with h| ⟨b,off,rfl,hi⟩
    { cases h }
    {
    have hl:b<w.heap.size:=zah (hi 0 x rfl).1;exact .inr fun ad e hk=>by cases e;rcases hK _ hk with h|h;exact ha _ rfl h;exact absurd h (by show¬_≤b;omega)
    }
theorem zbm.chg {xs:List T3} (h:zbm w a xs) (hc:Chg K w w') (ha:Ao xs K a):zbm w' a xs:=by
  rcases ha with ha|ha
  { exact .inl ha }
  rcases h with h| ⟨b,off,rfl,hi⟩
  { exact .inl h }
  { exact .inr ⟨b,off,rfl,fun i s hl=>⟨hc.cell (hi i s hl).1 (ha ⟨b,off,none⟩ rfl),hc.cell (hi i s hl).2.1 (ha ⟨b,off,none⟩ rfl),hc.cell (hi i s hl).2.2 (ha ⟨b,off,none⟩ rfl)⟩⟩ }
theorem zbm.wide {xs:List T3} (h:zbm w a xs) (ha:Ao xs K a) (hK: ∀b,K' b→K b∨w.heap.size≤b):Ao xs K' a:=by
  cases xs with
  |nil=>exact .inl rfl
  |cons x r=>
    rcases ha with ha|ha
    { cases ha }
    rcases h with h| ⟨b,off,rfl,hi⟩
    { cases h }
    {
    have hl:b<w.heap.size:=zah (hi 0 x rfl).1;exact .inr fun ad e hk=>by cases e;rcases hK _ hk with h|h;exact ha _ rfl h;exact absurd h (by show¬_≤b;omega)
    }
def IsRow (w:World) (a:Option Addr) (vs:List Value):Prop:=
  vs= []∨∃b off,a=some ⟨b,off,none⟩∧∀j u,vs[j]?=some u→w.cell? ⟨b,off+j,none⟩=some u
theorem IsRow.chg (h:IsRow w a vs) (hc:Chg K w w') (ha:Ao vs K a):IsRow w' a vs:=by
  rcases ha with ha|ha
  { exact .inl ha }
  rcases h with h| ⟨b,off,rfl,hi⟩
  { exact .inl h }
  { exact .inr ⟨b,off,rfl,fun j u hl=>hc.cell (hi j u hl) (ha ⟨b,off,none⟩ rfl)⟩ }
theorem IsRow.wide {xs:List Value} (h:IsRow w a xs) (ha:Ao xs K a) (hK: ∀b,K' b→K b∨w.heap.size≤b):Ao xs K' a:=by
  cases xs with
  |nil=>exact .inl rfl
  |cons x r=>
    rcases ha with ha|ha
    { cases ha }
    rcases h with h| ⟨b,off,rfl,hi⟩
    { cases h }
    {
    have hl:b<w.heap.size:=zah (hi 0 x rfl);exact .inr fun ad e hk=>by cases e;rcases hK _ hk with h|h;exact ha _ rfl h;exact absurd h (by show¬_≤b;omega)
    }
theorem IsRow.below (h:IsRow w a vs) (hb:Below w.heap.size w w'):IsRow w' a vs:=h.chg (.of hb fun _=>False) Ao.no
def Vs {α:Type} (R:α→List Value→Prop):List α→List Value→Prop
  | [],vs=>vs= []
  |x::l,vs=>∃c r,vs=c++r∧R x c∧Vs R l r
theorem Vs.mono {α:Type} {R R' :α→List Value→Prop} (h: ∀x c,R x c→R' x c): ∀{l:List α} {vs:List Value},Vs R l vs→Vs R' l vs
  | [],_,hv=>hv
  |_::_,_,⟨c,r,e,h1,h2⟩=>⟨c,r,e,h _ _ h1,Vs.mono h h2⟩
theorem Vs.app {α:Type} {R:α→List Value→Prop}: ∀{l k:List α} {vs us:List Value},Vs R l vs→Vs R k us→Vs R (l++k) (vs++us)
  | [],k,vs,us,h,hk=>by have h:vs= []:=h;subst h;exact hk
  |x::l,k,vs,us,⟨c,r,e,h1,h2⟩,hk=>⟨c,r++us,by rw [e,List.append_assoc],h1,h2.app hk⟩
theorem Vs.len {α:Type} {R:α→List Value→Prop} {k:Nat} (hR: ∀x c,R x c→c.length=k): ∀{l:List α} {vs:List Value},Vs R l vs→vs.length=l.length * k
  | [],vs,h=>by have h:vs= []:=h;subst h;simp
  |x::l,vs,⟨c,r,e,h1,h2⟩=>by rw [e,List.length_append,hR _ _ h1,h2.len hR,List.length_cons,Nat.add_mul];omega
theorem Vs.at_ {α:Type} {R:α→List Value→Prop} (hR: ∀x c,R x c→c.length=k): ∀{l:List α} {vs:List Value} (i:Nat) (x:α),Vs R l vs→l[i]?=some x→
    ∃p c q,vs=p++(c++q)∧p.length=i * k∧R x c∧Vs R (l.take i) p∧Vs R (l.drop (i+1)) q
  | [],_,i,x,_,hi=>by simp at hi
  |y::l,vs,0,x,⟨c,r,e,h1,h2⟩,hi=>by
    simp at hi;subst hi
    exact⟨[],c,r,by rw [e];rfl,by simp,h1,rfl,h2⟩
  |y::l,vs,i+1,x,⟨c,r,e,h1,h2⟩,hi=>by
    obtain ⟨p,d,q,e2,hp,hd,h3,h4⟩:=h2.at_ hR i x (by simpa using hi);exact⟨c++p,d,q,by rw [e,e2,List.append_assoc],by rw [List.length_append,hR _ _ h1,hp,Nat.add_mul];omega,hd,⟨c,p,rfl,h1,h3⟩,h4⟩
theorem Vs.take {α:Type} {R:α→List Value→Prop} {k:Nat} (hR: ∀x c,R x c→c.length=k): ∀{l:List α} {vs:List Value} (n:Nat),Vs R l vs→Vs R (l.take n) (vs.take (n * k))
  | [],vs,n,h=>by have h:vs= []:=h;subst h;simp;rfl
  |x::l,vs,0,_=>by simp;rfl
  |x::l,vs,n+1,⟨c,r,e,h1,h2⟩=>⟨c,r.take (n * k),by rw [e,List.take_append,List.take_of_length_le (by rw [hR _ _ h1,Nat.add_mul];omega),hR _ _ h1];congr 2;rw [Nat.add_mul];omega,h1,h2.take hR n⟩
theorem Vs.put {α:Type} {R:α→List Value→Prop} (hR: ∀x c,R x c→c.length=k) {l:List α} {x y:α} (h:Vs R l vs) (hi:l[i]?=some x) {d:List Value} (hd:R y d):
    ∃p c q,vs=p++(c++q)∧p.length=i * k∧R x c∧Vs R (l.set i y) (p++(d++q)):=by
  obtain ⟨p,c,q,e,hp,hc,h1,h2⟩:=h.at_ hR i x hi;refine⟨p,c,q,e,hp,hc, ?_⟩;have hlt:=(List.getElem?_eq_some_iff.1 hi).1;rw [List.set_eq_take_append_cons_drop,if_pos hlt];exact h1.app ⟨d,q,rfl,hd,h2⟩
theorem Vs.cut {α:Type} {R:α→List Value→Prop} (hR: ∀x c,R x c→c.length=k) {l:List α} {x:α} (h:Vs R l vs) (hi:l[i]?=some x):
    ∃p c q,vs=p++(c++q)∧p.length=i * k∧R x c∧Vs R (l.eraseIdx i) (p++q):=by
  obtain ⟨p,c,q,e,hp,hc,h1,h2⟩:=h.at_ hR i x hi;exact⟨p,c,q,e,hp,hc,by rw [List.eraseIdx_eq_take_drop_succ];exact h1.app h2⟩
def UR (w:World) (K:Nat→Prop) (u:Un) (c:List Value):Prop:=
  ∃a n cp,c= [.slice a n cp,.int .i64 u.fu,.bool u.up,.int .i64 u.n,.int .i64 u.hv]∧BW w a n cp u.ws∧Ao u.ws K a
def MR (w:World) (K:Nat→Prop) (m:Ms) (c:List Value):Prop:=
  ∃a n cp,c= [.int .i64 m.k,.int .i64 m.u,.int .i64 m.n,.int .i64 m.at',.int .i64 m.im,.slice a n cp,.bool m.y]∧BI w a n m.ws∧Ao m.ws K a
def LR (w:World) (K:Nat→Prop) (r:List Int) (c:List Value):Prop:=
  ∃a cp,c= [.slice a r.length cp]∧zag w a r∧r.length≤cp∧cp≤maxLen∧Ao r K a
def CR (w:World) (K:Nat→Prop) (x:Cp) (c:List Value):Prop:=
  ∃m:CA,c= [.int .i64 x.n,.int .i64 x.v,.int .i64 x.u,.slice m.at_ m.nt m.ct,.slice m.ai m.ni m.ci]∧BT w m.at_ m.nt x.ts∧Ao x.ts K m.at_∧(∃vs,IsRow w m.ai vs∧Vs (LR w K) x.ims vs∧Ao vs K m.ai)∧x.ims.length=m.ni∧m.ni≤maxLen
theorem UR.len (u:Un) (c:List Value) (h:UR w K u c):c.length=5:=by obtain ⟨_,_,_,rfl,_⟩:=h;rfl
theorem MR.len (u:Ms) (c:List Value) (h:MR w K u c):c.length=7:=by obtain ⟨_,_,_,rfl,_⟩:=h;rfl
theorem LR.len (u:List Int) (c:List Value) (h:LR w K u c):c.length=1:=by obtain ⟨_,_,rfl,_⟩:=h;rfl
theorem CR.len (u:Cp) (c:List Value) (h:CR w K u c):c.length=5:=by obtain ⟨_,rfl,_⟩:=h;rfl
theorem UR.chg (hc:Chg K w w') (u:Un) (c:List Value) (h:UR w K u c):UR w' K u c:=by
  obtain ⟨a,n,cp,e,h1,h2⟩:=h;exact⟨a,n,cp,e,⟨h1.at_.chg hc h2,h1.len,h1.cap,h1.max⟩,h2⟩
theorem MR.chg (hc:Chg K w w') (u:Ms) (c:List Value) (h:MR w K u c):MR w' K u c:=by
  obtain ⟨a,n,cp,e,h1,h2⟩:=h;exact⟨a,n,cp,e,⟨h1.at_.chg hc h2,h1.len,h1.max⟩,h2⟩
theorem LR.chg (hc:Chg K w w') (u:List Int) (c:List Value) (h:LR w K u c):LR w' K u c:=by
  obtain ⟨a,cp,e,h1,h3,h4,h2⟩:=h;exact⟨a,cp,e,h1.chg hc h2,h3,h4,h2⟩
theorem CR.chg (hc:Chg K w w') (u:Cp) (c:List Value) (h:CR w K u c):CR w' K u c:=by
  obtain ⟨m,e,h1,h2,⟨vs,h3,h4,h7⟩,h5,h6⟩:=h;exact⟨m,e,⟨h1.at_.chg hc h2,h1.len,h1.max⟩,h2,⟨vs,h3.chg hc h7,h4.mono (LR.chg hc),h7⟩,h5,h6⟩
theorem UR.off (hK: ∀k,K' k→K k∨w.heap.size≤k) (u:Un) (c:List Value) (h:UR w K u c):UR w K' u c:=by
  obtain ⟨a,n,cp,e,h1,h2⟩:=h;exact⟨a,n,cp,e,h1,h1.at_.wide h2 hK⟩
theorem MR.off (hK: ∀k,K' k→K k∨w.heap.size≤k) (u:Ms) (c:List Value) (h:MR w K u c):MR w K' u c:=by
  obtain ⟨a,n,cp,e,h1,h2⟩:=h;exact⟨a,n,cp,e,h1,h1.at_.wide h2 hK⟩
theorem LR.off (hK: ∀k,K' k→K k∨w.heap.size≤k) (u:List Int) (c:List Value) (h:LR w K u c):LR w K' u c:=by
  obtain ⟨a,cp,e,h1,h3,h4,h2⟩:=h;exact⟨a,cp,e,h1,h3,h4,h1.wide h2 hK⟩
theorem CR.off (hK: ∀k,K' k→K k∨w.heap.size≤k) (u:Cp) (c:List Value) (h:CR w K u c):CR w K' u c:=by
  obtain ⟨m,e,h1,h2,⟨vs,h3,h4,h7⟩,h5,h6⟩:=h;exact⟨m,e,h1,h1.at_.wide h2 hK,⟨vs,h3,h4.mono (LR.off hK),h3.wide h7 hK⟩,h5,h6⟩
theorem Vs.cell {α:Type} {R:α→List Value→Prop} (hR: ∀x c,R x c→c.length=k) {l:List α} {x:α} (h:Vs R l vs) (hi:l[i]?=some x): ∃c,R x c∧∀j v,c[j]?=some v→vs[i * k+j]?=some v:=by
  obtain ⟨p,c,q,e,hp,hc,-,-⟩:=h.at_ hR i x hi;refine⟨c,hc,fun j v hv=> ?_⟩;have hj:=(List.getElem?_eq_some_iff.1 hv).1;rw [e,List.getElem?_append_right (by omega),hp,Nat.add_sub_cancel_left,List.getElem?_append_left hj];exact hv
theorem IsRow.elem {α:Type} {R:α→List Value→Prop} (hR: ∀x c,R x c→c.length=k) (hk:0<k) {l:List α} {x:α} (hr:IsRow w a vs) (h:Vs R l vs) (hi:l[i]?=some x):
    ∃b off c,a=some ⟨b,off,none⟩∧R x c∧(∀j v,c[j]?=some v→w.cell? ⟨b,off+i * k+j,none⟩=some v):=by
  obtain ⟨c,hc,hg⟩:=h.cell hR hi
  rcases hr with rfl| ⟨b,off,rfl,hr⟩
  {
  have h0:=hR _ _ hc;have:=hg 0 c[0] (by simp [h0,hk])
  simp at this
  }
  { exact⟨b,off,c,rfl,hc,fun j v hv=>by rw [Nat.add_assoc];exact hr _ _ (hg j v hv)⟩ }
theorem zdz {l:List Un} {u:Un} (hr:IsRow w a vs) (h:Vs (UR w K) l vs) (hi:l[i]?=some u): ∃b off x n c,a=some ⟨b,off,none⟩∧BW w x n c u.ws∧Ao u.ws K x∧w.cell? ⟨b,off+i * 5,none⟩=some (.slice x n c)∧w.cell? ⟨b,off+i * 5+1,none⟩=some (.int .i64 u.fu)∧w.cell? ⟨b,off+i * 5+2,none⟩=some (.bool u.up)∧w.cell? ⟨b,off+i * 5+3,none⟩=some (.int .i64 u.n)∧w.cell? ⟨b,off+i * 5+4,none⟩=some (.int .i64 u.hv):=by
  obtain ⟨b,off,c,rfl,⟨x,n,cp,rfl,h1,h2⟩,hc⟩:=hr.elem UR.len (by decide) h hi;exact⟨b,off,x,n,cp,rfl,h1,h2,hc 0 _ rfl,hc 1 _ rfl,hc 2 _ rfl,hc 3 _ rfl,hc 4 _ rfl⟩
theorem zgd {l:List Ms} {m:Ms} (hr:IsRow w a vs) (h:Vs (MR w K) l vs) (hi:l[i]?=some m): ∃b off x n c,a=some ⟨b,off,none⟩∧BI w x n m.ws∧Ao m.ws K x∧w.cell? ⟨b,off+i * 7,none⟩=some (.int .i64 m.k)∧w.cell? ⟨b,off+i * 7+1,none⟩=some (.int .i64 m.u)∧w.cell? ⟨b,off+i * 7+2,none⟩=some (.int .i64 m.n)∧w.cell? ⟨b,off+i * 7+3,none⟩=some (.int .i64 m.at')∧w.cell? ⟨b,off+i * 7+4,none⟩=some (.int .i64 m.im)∧w.cell? ⟨b,off+i * 7+5,none⟩=some (.slice x n c)∧w.cell? ⟨b,off+i * 7+6,none⟩=some (.bool m.y):=by
  obtain ⟨b,off,c,rfl,⟨x,n,cp,rfl,h1,h2⟩,hc⟩:=hr.elem MR.len (by decide) h hi;exact⟨b,off,x,n,cp,rfl,h1,h2,hc 0 _ rfl,hc 1 _ rfl,hc 2 _ rfl,hc 3 _ rfl,hc 4 _ rfl,hc 5 _ rfl,hc 6 _ rfl⟩
theorem ziz {ls:List (List Int)} (hr:IsRow w a vs) (h:Vs (LR w K) ls vs):ze6 w a ls:=by
  rcases List.eq_nil_or_concat ls with rfl| ⟨l0,x0,hx⟩
  { exact .inl rfl }
  {
  have hpos:0<ls.length:=by rw [hx];simp
  obtain ⟨b,off,c,rfl,-,-⟩:=hr.elem LR.len (by decide) h (List.getElem?_eq_getElem hpos);refine .inr ⟨b,off,rfl,fun i r hi=> ?_⟩;obtain ⟨b',off',c,e,⟨x,cp,rfl,h1,h2,h3,-⟩,hc⟩:=hr.elem LR.len (by decide) h hi;cases e;have:=hc 0 _ rfl;rw [Nat.mul_one] at this;exact⟨x,cp,this,h1,h2,h3⟩
  }
structure CI (w:World) (K:Nat→Prop) (m:CA) (x:Cp):Prop where
  ts:BT w m.at_ m.nt x.ts
  ot:Ao x.ts K m.at_
  ims:BL w m.ai m.ni x.ims
  row: ∃vs,IsRow w m.ai vs∧Vs (LR w K) x.ims vs∧Ao vs K m.ai
theorem zfa {l:List Cp} {x:Cp} (hr:IsRow w a vs) (h:Vs (CR w K) l vs) (hi:l[i]?=some x): ∃b off m,a=some ⟨b,off,none⟩∧CI w K m x∧w.cell? ⟨b,off+i * 5,none⟩=some (.int .i64 x.n)∧w.cell? ⟨b,off+i * 5+1,none⟩=some (.int .i64 x.v)∧w.cell? ⟨b,off+i * 5+2,none⟩=some (.int .i64 x.u)∧w.cell? ⟨b,off+i * 5+3,none⟩=some (.slice m.at_ m.nt m.ct)∧w.cell? ⟨b,off+i * 5+4,none⟩=some (.slice m.ai m.ni m.ci):=by
  obtain ⟨b,off,c,rfl,⟨m,rfl,h1,h2,⟨us,h3,h4,h7⟩,h5,h6⟩,hc⟩:=hr.elem CR.len (by decide) h hi;exact⟨b,off,m,rfl,⟨h1,h2,⟨ziz h3 h4,h5,h6⟩,⟨us,h3,h4,h7⟩⟩,hc 0 _ rfl,hc 1 _ rfl,hc 2 _ rfl,hc 3 _ rfl,hc 4 _ rfl⟩
structure VA where
  ab:Option Addr
  nb:Nat
  cb:Nat
  sa:Option Addr
  ns:Nat
  cs:Nat
  g:GA
  au:Option Addr
  nu:Nat
  cu:Nat
  ac:Option Addr
  nc:Nat
  cc:Nat
  an:Option Addr
  nn:Nat
  cn:Nat
def vhC (v:Vh) (m:VA):Array Value:=#[.slice m.ab m.nb m.cb,.slice m.sa m.ns m.cs,.slice m.g.a m.g.n m.g.c,.int .i64 v.g.fu,.bool v.g.up,.int .i64 v.g.t.r.v,.slice m.g.ak m.g.nk m.g.ck,.int .i64 v.g.t.r.t,.int .i64 v.g.t.ver,.slice m.g.av m.g.nv m.g.cv,.slice m.g.ad m.g.nd m.g.cd,.slice m.au m.nu m.cu,.slice m.ac m.nc m.cc,.slice m.an m.nn m.cn,.int .i64 v.now]
def vhv (v:Vh) (m:VA):Value:=.agg (vhC v m)
def vhO (v:Vh) (m:VA):Obj:=.cells (vhC v m) 40 (0,0)
structure GO (K:Nat→Prop) (m:GA) (g:Gt):Prop where
  a:Ao g.ws K m.a
  ak:Ao g.t.r.ks K m.ak
  av:Ao g.vo K m.av
  ad:Ao g.di K m.ad
theorem GO.fresh {F:Nat} {m:GA} {g:Gt} (h:GFr F m) (hK: ∀k,K k→k<F):GO K m g:=⟨.fresh h.a hK,.fresh h.ak hK,.fresh h.av hK,.fresh h.ad hK⟩
theorem GO.wide {m:GA} {g:Gt} (h:GO K m g) (hg:GIn w m g) (hK: ∀k,K' k→K k∨w.heap.size≤k):GO K' m g:=⟨hg.ws.at_.wide h.a hK,hg.ks.at_.wide h.ak hK,hg.vo.at_.wide h.av hK,hg.di.at_.wide h.ad hK⟩
theorem GIn.chg {m:GA} {g:Gt} (h:GIn w m g) (hc:Chg K w w') (ho:GO K m g):GIn w' m g:=
  ⟨⟨h.ws.at_.chg hc ho.a,h.ws.len,h.ws.cap,h.ws.max⟩,⟨h.ks.at_.chg hc ho.ak,h.ks.len,h.ks.max⟩,⟨h.vo.at_.chg hc ho.av,h.vo.len,h.vo.cap,h.vo.max⟩,⟨h.di.at_.chg hc ho.ad,h.di.len,h.di.cap,h.di.max⟩⟩
structure RIn {α:Type} (R:World→(Nat→Prop)→α→List Value→Prop) (w:World) (K:Nat→Prop) (a:Option Addr) (n c:Nat) (l:List α):Prop where
  row: ∃vs,IsRow w a vs∧Vs (R w K) l vs∧Ao vs K a
  len:l.length=n
  cap:n≤c
  max:n≤maxLen
section
variable {α:Type} {R:World→(Nat→Prop)→α→List Value→Prop} {K K' :Nat→Prop} {w w' :World} {a:Option Addr} {n c:Nat} {l:List α}
theorem RIn.chg (hR: ∀{w w' :World} {K:Nat→Prop},Chg K w w' →∀x c,R w K x c→R w' K x c) (h:RIn R w K a n c l) (hc:Chg K w w'):RIn R w' K a n c l:=by
  obtain ⟨vs,h1,h2,h3⟩:=h.row;exact⟨⟨vs,h1.chg hc h3,h2.mono (hR hc),h3⟩,h.len,h.cap,h.max⟩
theorem RIn.wide (hO: ∀{w:World} {K K' :Nat→Prop},(∀b,K' b→K b∨w.heap.size≤b)→∀x c,R w K x c→R w K' x c) (h:RIn R w K a n c l) (hK: ∀b,K' b→K b∨w.heap.size≤b):RIn R w K' a n c l:=by
  obtain ⟨vs,h1,h2,h3⟩:=h.row;exact⟨⟨vs,h1,h2.mono (hO hK),h1.wide h3 hK⟩,h.len,h.cap,h.max⟩
end
structure VIn (w:World) (K:Nat→Prop) (m:VA) (v:Vh):Prop where
  ss:BB w m.ab m.nb m.cb v.ss
  sg:BG w m.sa m.ns v.sg
  g:GIn w m.g v.g
  us:RIn UR w K m.au m.nu m.cu v.us
  cs:RIn CR w K m.ac m.nc m.cc v.cs
  net:RIn MR w K m.an m.nn m.cn v.net
  ob:Ao v.ss K m.ab
  os:Ao v.sg K m.sa
  og:GO K m.g v.g
theorem VIn.chg {m:VA} {v:Vh} (h:VIn w K m v) (hc:Chg K w w'):VIn w' K m v:=
  ⟨⟨h.ss.at_.chg hc h.ob,h.ss.len,h.ss.cap,h.ss.max,h.ss.short⟩,⟨h.sg.at_.chg hc h.os,h.sg.len,h.sg.max⟩,h.g.chg hc h.og,h.us.chg UR.chg hc,h.cs.chg CR.chg hc,h.net.chg MR.chg hc,h.ob,h.os,h.og⟩
theorem VIn.below {m:VA} {v:Vh} (h:VIn w K m v) (hb:Below w.heap.size w w'):VIn w' K m v:=h.chg (.of hb K)
theorem VIn.wide {m:VA} {v:Vh} (h:VIn w K m v) (hK: ∀k,K' k→K k∨w.heap.size≤k):VIn w K' m v:=
  ⟨h.ss,h.sg,h.g,h.us.wide UR.off hK,h.cs.wide CR.off hK,h.net.wide MR.off hK,h.ss.at_.wide h.ob hK,h.sg.at_.wide h.os hK,h.og.wide h.g hK⟩
abbrev aV (m:VA) (v:Vh):Array Value:=#[.slice m.ab m.nb m.cb,.slice m.sa m.ns m.cs,.slice m.g.a m.g.n m.g.c,.int .i64 v.g.fu,.bool v.g.up,.int .i64 v.g.t.r.v,.slice m.g.ak m.g.nk m.g.ck,.int .i64 v.g.t.r.t,.int .i64 v.g.t.ver,.slice m.g.av m.g.nv m.g.cv,.slice m.g.ad m.g.nd m.g.cd,.slice m.au m.nu m.cu,.slice m.ac m.nc m.cc,.slice m.an m.nn m.cn,.int .i64 v.now]
abbrev aC (c:Cp) (m:CA):Array Value:=#[.int .i64 c.n,.int .i64 c.v,.int .i64 c.u,.slice m.at_ m.nt m.ct,.slice m.ai m.ni m.ci]
end
section
open Go.RowKit
def fillX (x:Int) (L j:Nat):List Int:=List.replicate j x++List.replicate (L - j) 0
theorem zh5 {x:Int} {L j:Nat} (h:j≤L): (fillX x L j).length=L:=by simp [fillX];omega
theorem fillX_end (x:Int) (L:Nat):fillX x L L=List.replicate L x:=by simp [fillX]
theorem mul_hi: ∀Y:Nat,Y<64→IntKind.u64.wrap (IntKind.u64.wrap (IntKind.u64.wrap (IntKind.u64.wrap (bits .and .u64 1 4294967295 * bits .and .u64 (Y:Int) 4294967295)/ 4294967296)/ 4294967296)+IntKind.u64.wrap (bits .and .u64 (IntKind.u64.wrap (IntKind.u64.wrap (bits .and .u64 1 4294967295 * bits .and .u64 (Y:Int) 4294967295)/ 4294967296)) 4294967295+IntKind.u64.wrap (bits .and .u64 1 4294967295 *((Y:Int)/ 4294967296)))/ 4294967296)=0:=by decide+kernel
theorem mul_oneX (Y:Nat) (h:Y<64) (w:World):
    Calls Tryz.prog 166 #[.int .u64 1,.int .u64 Y] w fun e w' =>e=.returned (.tuple #[.int .u64 0,.int .u64 Y])∧w' =w:=by
  go_enter Tryz.func166,Tryz.ntmps166;go_wp2;go_ret2;exact⟨congrArg (fun z=>Ending.returned (.tuple #[.int .u64 z,.int .u64 Y])) (mul_hi Y h),rfl⟩
theorem zo8 (x:Int) (a:Option Addr) (c L:Nat) (w:World) (h:zag w a [x]) (hL:1≤L):
    (Builtin.copy_ #[26,26] 3 #[.slice (some ⟨w.heap.size,0,none⟩) L L,.slice a 1 c]).run Tryz.prog (w.alloc (.cells (vals (List.replicate L 0)).toArray 3))=.ok (goInt 1) (w.alloc (.cells (vals (fillX x L 1)).toArray 3)):=by
  have h' :=h.alloc (.cells (vals (List.replicate L 0)).toArray 3)
  rcases h' with h0| ⟨b,off,rfl,hc⟩
  { cases h0 }
  {
  have:=run_copy_row (P:=Tryz.prog) (w.alloc (.cells (vals (List.replicate L 0)).toArray 3)) 26 26 3 3 w.heap.size 0 L L ⟨b,off,none⟩ 1 c _ 3 (vals [x]) Tryz.underlying26 zea (heap_alloc_last w _) (by simp only [za3,List.length_cons,List.length_nil];show 1=Nat.min 1 L;exact(Nat.min_eq_left hL).symm) ?_ (by simp [vals];omega) (zbu _)
  {
  rw [this,za3,World.setRow_alloc_new]
  congr 3
  obtain ⟨r,rfl⟩: ∃r,L=r+1:=⟨L - 1,by omega⟩
  simp [vals,fillX]
  }
  {
  intro j v hv;have hj:j=0:=by
    have:=(List.getElem?_eq_some_iff.1 hv).1
    simp [vals] at this;omega
  subst hj
  simp [vals] at hv
  subst hv
  simpa [Addr.add] using hc 0 (by simp)
  }
  }
theorem znf {x:Int} {L n m:Nat} (_h:n+m≤L):splice (vals (fillX x L n)) n (vals (List.replicate m x))=vals (fillX x L (n+m)):=by
  unfold splice fillX vals
  simp
  rw [←List.append_assoc,List.replicate_append_replicate]
  congr 1
  {
  rw [List.drop_append]
  simp
  omega
  }
theorem zpe (x:Int) (a:Option Addr) (c L:Nat) (h1:1≤L) (hY:L<64) (w:World) (h:zag w a [x]):
    Calls Tryz.prog 102 #[.slice a 1 c,.int .i64 (L:Int)] w fun e w' =>∃g,e=.returned (.slice (some ⟨g,0,none⟩) L L)∧w.heap.size≤g∧zat w' g (List.replicate L x)∧Below w.heap.size w w' :=by
  have HM:=hide (fun W=>mul_oneX L hY W);have hmk:=zes L w (by omega);have hcp:=zo8 x a c L w h (by omega);have l1:1≤L:=by omega
  have l2:L≤192:=by omega
  clear hY h1;go_enter Tryz.func102,Tryz.ntmps102;go_wp2_with fail;refine(zae HM _).mono ?_;rintro e wv ⟨rfl,rfl⟩;go_wp2_with fail
  go_loopw [8] (fun i wr=>∃n:Nat,1≤n∧n≤L∧i=.int .i64 n∧zat wr wv.heap.size (fillX x L n)∧Below wv.heap.size wv wr) (fun i _=>L - (intOf i).toNat)
  case atStart=>exact⟨1,by omega,by omega,rfl,heap_alloc_last _ _,bA1⟩
  case round=>
    obtain ⟨n,n1,n2,rfl,how,hbe⟩:=hrel
    by_cases hlt:n<L
    {
    obtain ⟨m,hm⟩: ∃m,m=min n (L - n):=⟨_,rfl⟩;have m1:n+m≤L:=by omega
    have m2:1≤m:=by omega
    have hn: (vals (List.replicate m x)).length=Nat.min n (L - n):=by rw [za3,List.length_replicate,hm]
    have hfit:n+(vals (List.replicate m x)).length≤(vals (fillX x L n)).length:=by rw [za3,za3,zh5 (x:=x) n2,List.length_replicate];exact m1
    have hsrc: ∀j v,(vals (List.replicate m x))[j]?=some v→wr.drew.cell? ((⟨wv.heap.size,0,none⟩:Addr).add j)=some v:=by
      intro j v hv;have hj:j<m:=by
        have:=(List.getElem?_eq_some_iff.1 hv).1
        simpa [vals] using this
      have hc:=how.cell j (by rw [zh5 (x:=x) n2];omega);have e: (fillX x L n).getD j 0=x:=by unfold fillX;simp [List.getElem?_append,show j<n by omega]
      rw [e] at hc
      simp [vals,hj] at hv
      subst hv
      show wr.cell? _=_
      by_cases hj0:j=0
      { subst hj0;simpa [Addr.add] using hc }
      { simpa [Addr.add,hj0] using hc }
    have HM:=hide hm;have HNm:=hide hn;have HF:=hide hfit;have HS:=hide hsrc;have HW:=hide how;have c1: ¬L=n:=by omega
    have c2: (n:Int)≤(L:Int):=by omega
    have c3: (0:Int)≤(n:Int):=by omega
    clear hm hn hfit hsrc how;go_wp2_with fail
    go_region_held3 (fun _=>True) (trivial)
      ((refine step_copy_splice (by rfl) (.tmp 41) (.tmp 44) 26 26 (by rfl) 3 Tryz.underlying26 zea (some ⟨wv.heap.size,n,none⟩) (some ⟨wv.heap.size,0,none⟩) (L - n) (L - n) n L (by rfl) (by rfl) wv.heap.size n (vals (fillX x L n)) 3 HW.out (vals (List.replicate m x)) HNm.out (fun _=>⟨rfl,_,rfl,HS.out⟩) HF.out (zbu _) wv.heap.size wv hbe.drew (Nat.le_refl _) ?_;intro w4 hg4 hb4))
    have ev:IntKind.i64.wrap ((n:Int)+((vals (List.replicate m x)).length:Nat))= ((n+m:Nat):Int):=by
      rw [za3,List.length_replicate,IntKind.wrap_i64];omega
    have HE:=hide ev;have how4:zat w4 wv.heap.size (fillX x L (n+m)):=by
      unfold zat;rw [←znf m1];exact hg4.out
    clear ev hg4;go_wp2
    go_roundw
    case rel=>exact⟨n+m,by omega,by omega,congrArg (Value.int .i64) HE.out,how4,hb4⟩
    case measure=>
      have e:=HE.out;simp only [intOf]
      first| (rw [e];omega)|omega
    }
    {
    obtain rfl:n=L:=by omega
    go_wp2;go_ret;exact⟨_,rfl,Nat.le_refl _,by rw [fillX_end] at how;exact how,hbe⟩
    }
end
section
open Go.RowKit
def imgF (v k:Nat):List Int:=List.replicate (3+9 * k+v) (100 *(v:Int)+k)
def nmF (ss:List ByteArray) (s:ByteArray):Nat:=if nameN ss s≠0 then nameN ss s else ss.length+1
def adF (ss:List ByteArray) (s:ByteArray):List ByteArray:=if nameN ss s≠0 then ss else ss++ [s]
structure Fi where
  ss:List ByteArray
  ts:List T3
  ims:List (List Int)
def inP (v k:Nat) (s:Fi):Fi:=⟨adF s.ss (bs (imgT (imgF v k))),s.ts++ [((k:Int),(nmF s.ss (bs (imgT (imgF v k))):Int),((3+9 * k+v:Nat):Int))],s.ims++ [imgF v k]⟩
def inF (ss:List ByteArray) (v:Nat):Nat→Fi
  |0=>⟨ss, [], []⟩
  |k+1=>inP v k (inF ss v k)
structure Fo where
  ss:List ByteArray
  sg:List S2
  fst:List (List Int)
  offs:List Of
def ofF (v:Nat) (u:Int) (i:Fi):Of:=⟨[], [],(v:Int),u,i.ts, [3,5],i.ims⟩
def outQ (v:Nat) (u:Int) (s:Fo) (i:Fi) (t:ByteArray):Fo:=
  ⟨adF i.ss t,(if v=3 then s.sg else s.sg++ [(3,(nmF i.ss t:Int))])++ [(5,(nmF i.ss t:Int))],s.fst,s.offs++ [ofF v u i]⟩
def outP (u:Int) (v:Nat) (s:Fo) (i:Fi):Fo:=if v=0 then⟨i.ss,s.sg,i.ims,s.offs⟩ else outQ v u s i (bs (relT v u i.ts))
def outF (units:Nat) (u:Int):Nat→Fo
  |0=>⟨[], [], [], []⟩
  |v+1=>outP u v (outF units u v) (inF (outF units u v).ss v units)
def rtF:Rt:=⟨1, [3,4,5],2⟩
def facO (units:Nat) (u:Int):List Of:=(outF units u 4).offs
end
section
open Go.RowKit
def AllC (k:Nat) (p:Nat→Value→Prop) (cur:Array Value):Prop:=∀i u,cur[i]?=some u→p (i % k) u
section
variable {k:Nat} {p:Nat→Value→Prop}
theorem AllC.app {a b:Array Value} (ha:AllC k p a) (hb:AllC k p b) (h: ∃n,a.size=n * k):AllC k p (a++b):=by
  intro i u hu;obtain ⟨n,hn⟩:=h
  by_cases hi:i<a.size
  {
  rw [Array.getElem?_append_left hi] at hu;exact ha i u hu
  }
  {
  rw [Array.getElem?_append_right (by omega)] at hu;have:=hb _ u hu;have e: (i - a.size)% k=i % k:=by rw [hn,Nat.mul_comm];exact Nat.sub_mul_mod (by rw [Nat.mul_comm,←hn];omega)
  rwa [e] at this
  }
theorem AllC.zeros {z:Array Value} (hk:z.size=k) (h0:0<k) (h:AllC k p z) (n:Nat):AllC k p (Builtin.zeroCells z n):=by
  intro i u hu;unfold Builtin.zeroCells at hu;simp only [Array.getElem?_map,Array.getElem?_range] at hu
  split at hu
  {
  simp only [Option.map_some,Option.some.injEq] at hu;rw [hk] at hu;have hm:=Nat.mod_lt i h0;have:=h (i % k) u (by rw [←hu];simp [hk,hm])
  rwa [Nat.mod_mod] at this
  }
  { cases hu }
theorem AllC.list {cur:Array Value} {n:Nat} (h:AllC k p cur) (hv:cur.toList.take n=vs):AllC k p vs.toArray:=by
  intro i u hu;rw [List.getElem?_toArray,←hv,List.getElem?_take] at hu
  split at hu
  { exact h i u (by simpa using hu) }
  { cases hu }
theorem zqx {P:Program} (w:World) (t ty e:TypeId) (base:Nat) (i:TypeInfo) (z:Value) (size bytes:Nat) (ht:P.underlying t=some (.slice e)) (hi:P.info? e=some i) (hz:i.zero=some z)
    (hsize:i.size=size) (hby:i.bytes=bytes) (hzs:z.cells.size=size) (hsz:0<size) (v:Value) (n:Nat) (xs:List Value) (hown:w.ownsRow base e size v n xs)
    (ad:Addr) (m c:Nat) (news:List Value) (hl:news.length=m * size) (hnews: ∀j u,news[j]?=some u→w.cell? (ad.add j)=some u) (h1: ∀u∈news,u.oneCell' =true)
    (hm:0<m) (h63:n+m≤maxLen) (hbytes: (n+m)* bytes≤140737488355328)
    (hp: ∀g cur,v.ownBlock=some g→w.heap[g]?=some (.cells cur e (0,0))→AllC size p cur) (hpz:AllC size p z.cells) (hpn:AllC size p news.toArray)
    {v' :Value} {w' :World} (hr: (Builtin.append_ #[t,t] ty #[v,.slice (some ad) m c]).run P w=.ok v' w'): ∀g cur,v'.ownBlock=some g→w'.heap[g]?=some (.cells cur e (0,0))→AllC size p cur:=by
  subst hsize;subst hby
  have hsmall:n+m≤9223372036854775807:=by simp only [maxLen] at h63;omega
  rcases hown.2 with ⟨rfl,rfl⟩| ⟨g,cap,cur,rfl,hbg,hg,hnc,hcm,hcs,htake⟩
  {
  rw [run_append_nil (P:=P) w t ty e i z ht hi hz ad m c news hl hnews (by omega) (by omega) (by have hb:=hbytes;simp only [Nat.zero_add] at hb;omega)] at hr;cases hr;intro g cur hv hh;cases hv;have:=heap_alloc_last w.drew (.cells (news.toArray++Builtin.zeroCells z.cells (grownCap w m 0 e - m)) e);rw [show w.drew.heap.size=w.heap.size from rfl] at this;rw [this] at hh;cases hh;exact hpn.app (hpz.zeros hzs hsz _) ⟨m,by simpa using hl⟩
  }
  {
  have hpc:=hp g cur rfl hg;have hxs:AllC i.size p xs.toArray:=hpc.list htake
  by_cases hroom:n+m≤cap
  {
  have hfit:n * i.size+news.length≤cur.size:=by rw [hl,hcs,←Nat.add_mul];exact Nat.mul_le_mul_right _ hroom
  rw [run_append_room (P:=P) w t ty e i ht hi g n cap cur hg ad m c news hl hnews h1 hroom hfit] at hr;cases hr;intro g' cur' hv hh;cases hv;rw [setRow_heap w g cur _ e _ hg] at hh;cases hh;intro j u hu;rw [List.getElem?_toArray] at hu
  by_cases c1:j<n * i.size
  {
  rw [List.append_assoc,List.getElem?_append_left (by rw [htake,hown.1];exact c1),htake] at hu;exact hxs j u (by simpa using hu)
  }
  {
  by_cases c2:j<n * i.size+news.length
  {
  rw [List.append_assoc,List.getElem?_append_right (by rw [htake,hown.1];omega),htake,hown.1,List.getElem?_append_left (by omega)] at hu;have:=hpn (j - n * i.size) u (by simpa using hu)
  rwa [show(j - n * i.size)% i.size=j % i.size by rw [Nat.mul_comm];exact Nat.sub_mul_mod (by rw [Nat.mul_comm];omega)] at this
  }
  {
  rw [List.getElem?_append_right (by rw [List.length_append,htake,hown.1];omega),List.length_append,htake,hown.1,List.getElem?_drop] at hu;exact hpc j u (by rw [←hu,Array.getElem?_toList];congr 1;omega)
  }
  }
  }
  {
  have holds: ∀j u,xs[j]?=some u→w.cell? ((⟨g,0,none⟩:Addr).add j)=some u:=hown.cells (g:=g) rfl;rw [run_append_grow (P:=P) w t ty e i z ht hi hz ⟨g,0,none⟩ n cap xs hown.1 holds ad m c news hl hnews (by omega) (by omega) (growslice_fits (by omega) hbytes)] at hr;cases hr;intro g' cur' hv hh;cases hv;have:=heap_alloc_last w.drew (.cells (xs.toArray++news.toArray++Builtin.zeroCells z.cells (grownCap w (n+m) cap e - (n+m))) e);rw [show w.drew.heap.size=w.heap.size from rfl] at this;rw [this] at hh;cases hh;refine(hxs.app hpn ⟨n,by simpa using hown.1⟩).app (hpz.zeros hzs hsz _) ⟨n+m, ?_⟩;simp only [Array.size_append,List.size_toArray,hown.1,hl,Nat.add_mul]
  }
  }
end
end
section
open Go.RowKit
theorem zc1 (P:Program) (w:World) (t ty e:TypeId) (i:TypeInfo) (k:Nat) (cur:Array Value) (a:Option Addr) (n c:Nat) (vs:List Value) (ht:P.underlying t=some (.slice e)) (hi:P.info? e=some i) (hk:i.size=k) (hk0:0<k) (hz:cur.size=n * k)
    (hr:IsRow w a vs) (hl:vs.length=n * k) (h1: ∀v∈vs,v.oneCell' =true):
    (Builtin.copy_ #[t,t] ty #[.slice (some ⟨w.heap.size,0,none⟩) n n,.slice a n c]).run P (w.alloc (.cells cur e))=.ok (goInt n) (w.alloc (.cells vs.toArray e)):=by
  rcases hr with rfl| ⟨b,off,rfl,hc⟩
  {
  have hn0:n=0:=by
    rcases Nat.mul_eq_zero.1 (show n * k=0 by simpa using hl.symm) with h|h
    { exact h }
    { omega }
  subst hn0;have hcur:cur=#[]:=Array.eq_empty_of_size_eq_zero (by rw [hz,Nat.zero_mul]);subst hcur;have hl2: ∀x:Addr,(loadCells x 0).run P (w.alloc (.cells #[] e))=.ok #[] (w.alloc (.cells #[] e)):=fun x=>by simpa using run_loadCells_list (P:=P) (w.alloc (.cells #[] e)) x [] (by simp)
  cases a with
  |none=>simp [Builtin.copy_,run_underlying ht,Builtin.lenOf,Builtin.firstCells,sizeOf,typeInfo,hi,storeCells]
  |some ad=>simp [Builtin.copy_,run_underlying ht,Builtin.lenOf,Builtin.firstCells,sizeOf,typeInfo,hi,hl2,storeCells]
  }
  {
  have hsrc: ∀j v,vs[j]?=some v→(w.alloc (.cells cur e)).cell? ((⟨b,off,none⟩:Addr).add j)=some v:=fun j v hv=>by
    rw [zc2,((Below.refl w.heap.size w).alloc (Nat.le_refl _) (.cells cur e)).cell (zah (hc j v hv))];exact hc j v hv
  have hld:=run_loadCells_list (P:=P) (w.alloc (.cells cur e)) ⟨b,off,none⟩ vs hsrc;have hst:=run_storeCells_at P w.heap.size 0 e vs 0 cur (w.alloc (.cells cur e)) (heap_alloc_last w _) (by simp [hl,hz]) h1;have hx:cur.toList.take (0+0)++vs++cur.toList.drop (0+0+vs.length)=vs:=by
    rw [List.drop_of_length_le (by simp [hl,hz])];simp
  rw [hx,World.setRow_alloc_new] at hst;rw [hl] at hld;have hmin:Nat.min n n=n:=Nat.min_self n
  simp [Builtin.copy_,run_underlying ht,Builtin.lenOf,Builtin.firstCells,sizeOf,typeInfo,hi,hk,hmin,hld,hst]
  }
theorem zno (P:Program) (w:World) (t e:TypeId) (i:TypeInfo) (z:Value) (k bytes:Nat) (n:Nat) (ht:P.underlying t=some (.slice e)) (hi:P.info? e=some i) (hz:i.zero=some z) (hk:i.size=k) (hb:i.bytes=bytes) (h:n * bytes≤281474976710656) (hm:n≤maxLen):
    (Instr.makeSlice t (.int .i64 n) (.int .i64 n)).run P w=.ok (.slice (some ⟨w.heap.size,0,none⟩) n n) (w.alloc (.cells (madeCells z.cells (n * k)) e)):=by
  have h2: ((n * bytes:Nat):Int)≤281474976710656:=by omega
  rw [Int.natCast_mul,Int.mul_comm,←hb] at h2;have:=run_make (P:=P) w t e i z ht hi hz .i64 .i64 n n (by omega) (by omega) h2 (by unfold maxLen at hm;omega);rw [hk,Int.toNat_natCast] at this;exact this
theorem zbh (P:Program) (w:World) (t e:TypeId) (i:TypeInfo) (z:Value) (k bytes:Nat) (n:Nat) (ht:P.underlying t=some (.slice e)) (hi:P.info? e=some i) (hz:i.zero=some z) (hk:i.size=k) (hb:i.bytes=bytes) (h:n * bytes≤281474976710656) (hm:n≤maxLen):
    ∃cur,cur.size=n * k∧(Instr.makeSlice t (.int .i64 n) (.int .i64 n)).run P w=.ok (.slice (some ⟨w.heap.size,0,none⟩) n n) (w.alloc (.cells cur e)):=
  ⟨_,size_madeCells _ _,zno P w t e i z k bytes n ht hi hz hk hb h hm⟩
end
section
open Go.RowKit
theorem infoCpS: (Tryz.prog.info? 9).map (fun i=>(i.zero,i.size,i.bytes))=some (some (.string ⟨#[]⟩),1,16):=by kernel_rfl
theorem zph (a:Option Addr) (n c:Nat) (vs:List Value) (w:World) (h:IsRow w a vs) (hl:vs.length=n * 1) (h1: ∀v∈vs,v.oneCell' =true) (hm:n≤1000000):
    Calls Tryz.prog 141 #[.slice a n c] w fun e w' =>e=.returned (.slice (some ⟨w.heap.size,0,none⟩) n n)∧w' =w.alloc (.cells vs.toArray 9):=by
  obtain ⟨irr,hir,rz0,rz1,rz2⟩:=info_parts infoCpS;obtain ⟨cur,hcs,hmk⟩:=zbh Tryz.prog w 22 9 irr _ 1 16 n Tryz.underlying22 hir rz0 rz1 rz2 (by omega) (by unfold maxLen;omega);have hcp:=fun ty=>zc1 Tryz.prog w 22 ty 9 irr 1 cur a n c vs Tryz.underlying22 hir rz1 (by decide) hcs h hl h1
  clear h h1 hl hcs;go_enter Tryz.func141,Tryz.ntmps141;go_wp2;go_ret;exact⟨rfl,rfl⟩
theorem infoCpI: (Tryz.prog.info? 3).map (fun i=>(i.zero,i.size,i.bytes))=some (some (.int .i64 0),1,8):=by kernel_rfl
theorem zek (a:Option Addr) (n c:Nat) (vs:List Value) (w:World) (h:IsRow w a vs) (hl:vs.length=n * 1) (h1: ∀v∈vs,v.oneCell' =true) (hm:n≤1000000):
    Calls Tryz.prog 184 #[.slice a n c] w fun e w' =>e=.returned (.slice (some ⟨w.heap.size,0,none⟩) n n)∧w' =w.alloc (.cells vs.toArray 3):=by
  obtain ⟨irr,hir,rz0,rz1,rz2⟩:=info_parts infoCpI;obtain ⟨cur,hcs,hmk⟩:=zbh Tryz.prog w 26 3 irr _ 1 8 n Tryz.underlying26 hir rz0 rz1 rz2 (by omega) (by unfold maxLen;omega);have hcp:=fun ty=>zc1 Tryz.prog w 26 ty 3 irr 1 cur a n c vs Tryz.underlying26 hir rz1 (by decide) hcs h hl h1
  clear h h1 hl hcs;go_enter Tryz.func184,Tryz.ntmps184;go_wp2;go_ret;exact⟨rfl,rfl⟩
theorem infoCpB: (Tryz.prog.info? 4).map (fun i=>(i.zero,i.size,i.bytes))=some (some (.bool false),1,1):=by kernel_rfl
theorem ziw (a:Option Addr) (n c:Nat) (vs:List Value) (w:World) (h:IsRow w a vs) (hl:vs.length=n * 1) (h1: ∀v∈vs,v.oneCell' =true) (hm:n≤1000000):
    Calls Tryz.prog 185 #[.slice a n c] w fun e w' =>e=.returned (.slice (some ⟨w.heap.size,0,none⟩) n n)∧w' =w.alloc (.cells vs.toArray 4):=by
  obtain ⟨irr,hir,rz0,rz1,rz2⟩:=info_parts infoCpB;obtain ⟨cur,hcs,hmk⟩:=zbh Tryz.prog w 33 4 irr _ 1 1 n Tryz.underlying33 hir rz0 rz1 rz2 (by omega) (by unfold maxLen;omega);have hcp:=fun ty=>zc1 Tryz.prog w 33 ty 4 irr 1 cur a n c vs Tryz.underlying33 hir rz1 (by decide) hcs h hl h1
  clear h h1 hl hcs;go_enter Tryz.func185,Tryz.ntmps185;go_wp2;go_ret;exact⟨rfl,rfl⟩
theorem infoCpG: (Tryz.prog.info? 111).map (fun i=>(i.zero,i.size,i.bytes))=some (some (.agg #[.int .i64 0,.int .i64 0]),2,16):=by kernel_rfl
theorem zip (a:Option Addr) (n c:Nat) (vs:List Value) (w:World) (h:IsRow w a vs) (hl:vs.length=n * 2) (h1: ∀v∈vs,v.oneCell' =true) (hm:n≤1000000):
    Calls Tryz.prog 43 #[.slice a n c] w fun e w' =>e=.returned (.slice (some ⟨w.heap.size,0,none⟩) n n)∧w' =w.alloc (.cells vs.toArray 111):=by
  obtain ⟨irr,hir,rz0,rz1,rz2⟩:=info_parts infoCpG;obtain ⟨cur,hcs,hmk⟩:=zbh Tryz.prog w 25 111 irr _ 2 16 n Tryz.underlying25 hir rz0 rz1 rz2 (by omega) (by unfold maxLen;omega);have hcp:=fun ty=>zc1 Tryz.prog w 25 ty 111 irr 2 cur a n c vs Tryz.underlying25 hir rz1 (by decide) hcs h hl h1
  clear h h1 hl hcs;go_enter Tryz.func43,Tryz.ntmps43;go_wp2;go_ret;exact⟨rfl,rfl⟩
theorem infoCpT: (Tryz.prog.info? 163).map (fun i=>(i.zero,i.size,i.bytes))=some (some (.agg #[.int .i64 0,.int .i64 0,.int .i64 0]),3,24):=by kernel_rfl
theorem zpc (a:Option Addr) (n c:Nat) (vs:List Value) (w:World) (h:IsRow w a vs) (hl:vs.length=n * 3) (h1: ∀v∈vs,v.oneCell' =true) (hm:n≤1000000):
    Calls Tryz.prog 186 #[.slice a n c] w fun e w' =>e=.returned (.slice (some ⟨w.heap.size,0,none⟩) n n)∧w' =w.alloc (.cells vs.toArray 163):=by
  obtain ⟨irr,hir,rz0,rz1,rz2⟩:=info_parts infoCpT;obtain ⟨cur,hcs,hmk⟩:=zbh Tryz.prog w 43 163 irr _ 3 24 n Tryz.underlying43 hir rz0 rz1 rz2 (by omega) (by unfold maxLen;omega);have hcp:=fun ty=>zc1 Tryz.prog w 43 ty 163 irr 3 cur a n c vs Tryz.underlying43 hir rz1 (by decide) hcs h hl h1
  clear h h1 hl hcs;go_enter Tryz.func186,Tryz.ntmps186;go_wp2;go_ret;exact⟨rfl,rfl⟩
end
end Go.Proofs.YthmekfcgdfckaaaGreatDoor
