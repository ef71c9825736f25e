/- Rows that are copied element by element: 'puts', 'CInv', 'RowAns'. No program in this text. The contracts of vehicle.twinMessage, twinFlash, twinBook, twinGate, and of the small closures. The factory's two closures: an image; a text's name. A vehicle of one's own in memory: 'VOwn'; what each store makes of it. No program in this text. -/
import Derived.Test.YthmekfcgdfckaaaGreatDoorWn27
set_option maxRecDepth 1000000
set_option maxHeartbeats 0
namespace Go.Proofs.YthmekfcgdfckaaaGreatDoor
variable {w:World} {a:Option Addr} {xs:List Int} {vs:List Value} {t:TypeId} {n F b b' :Nat} {ss:List ByteArray} {v:Vh} {cs:Array Value} {Z:Nat→Prop} {m:VA}
section
open Go.RowKit
def puts (w:World) (g o:Nat):List Value→World
  | []=>w
  |v::r=>puts (w.setCell ⟨g,o,none⟩ v) g (o+1) r
theorem zbn (g:Nat): ∀(c:List Value) (w:World) (o:Nat),Chg (fun b=>b=g) w (puts w g o c)
  | [],w,_=>.refl _ w
  |v::r,w,o=>((Chg.refl (fun b=>b=g) w).set (p:=⟨g,o,none⟩) rfl v).trans (zbn g r _ _)
theorem zl5 (g:Nat): ∀(c:List Value) (w:World) (o:Nat),(puts w g o c).heap.size=w.heap.size
  | [],w,_=>rfl
  |v::r,w,o=>by show(puts _ g _ r).heap.size=_;rw [zl5 g r];simp [World.setCell]
theorem zi3 (g:Nat) (t:TypeId): ∀(c:List Value) (w:World) (o:Nat) (cur:Array Value),w.heap[g]?=some (.cells cur t (0,0))→o+c.length≤cur.size→
    ∃cur',(puts w g o c).heap[g]?=some (.cells cur' t (0,0))∧cur'.size=cur.size∧cur'.toList=cur.toList.take o++c++cur.toList.drop (o+c.length)
  | [],w,o,cur,h,_=>⟨cur,h,rfl,by simp⟩
  |v::r,w,o,cur,h,hl=>by
    have h2: (w.setCell ⟨g,o,none⟩ v).heap[g]?=some (.cells (cur.setIfInBounds o v) t (0,0)):=by
      simp only [World.setCell,Array.getElem?_modify]
      simp [h]
    simp only [List.length_cons] at hl;obtain ⟨cur',h3,h4,h5⟩:=zi3 g t r _ (o+1) _ h2 (by simp;omega);refine⟨cur',h3,by simpa using h4, ?_⟩;rw [h5];have ho:o<cur.toList.length:=by simp;omega
    rw [Array.toList_setIfInBounds,List.take_set,List.drop_set];have e1: (cur.toList.take (o+1)).set o v=cur.toList.take o++ [v]:=by
      rw [List.take_succ_eq_append_getElem ho,List.set_append_right _ _ (by simp;omega)];have ho2:o≤cur.size:=by simpa using Nat.le_of_lt ho
      simp [Nat.min_eq_left ho2]
    rw [e1,if_pos (by omega)];simp only [List.append_assoc,List.length_cons,List.singleton_append]
    congr 3
    omega
abbrev Out (g:Nat) (b:Nat):Prop:=b≤g
structure CInv {α:Type} (R:World→(Nat→Prop)→α→List Value→Prop) (k:Nat) (t:TypeId) (g n:Nat) (w:World) (l:List α) (i:Nat) (wr:World):Prop where
  bel:Below w.heap.size w wr
  row: ∃cur,wr.heap[g]?=some (.cells cur t (0,0))∧cur.size=n * k∧Vs (R wr (Out g)) (l.take i) (cur.toList.take (i * k))
def zhe {α:Type} (R:World→(Nat→Prop)→α→List Value→Prop) (k:Nat) (t:TypeId) (w:World) (l:List α) (e:Ending) (w' :World):Prop:=
  (∃g us,w.heap.size≤g∧g<w'.heap.size∧e=.returned (.slice (some ⟨g,0,none⟩) l.length l.length)∧w'.heap[g]?=some (.cells us.toArray t (0,0))∧us.length=l.length * k∧Vs (R w' (Out g)) l us)∧Below w.heap.size w w'
section
variable {α:Type} {R:World→(Nat→Prop)→α→List Value→Prop} {k:Nat} {t:TypeId} {g n:Nat} {w:World} {l:List α}
theorem CInv.first {cur:Array Value} (hs:cur.size=n * k):CInv R k t w.heap.size n w l 0 (w.alloc (.cells cur t)):=
  ⟨bA1,cur,heap_alloc_last _ _,hs,by simp;rfl⟩
theorem CInv.lt {i:Nat} {wr:World} (h:CInv R k t g n w l i wr):g<wr.heap.size:=by obtain ⟨cur,h1,_⟩:=h.row;exact zak h1
theorem CInv.step (hR: ∀{w w' :World} {K:Nat→Prop},Chg K w w' →∀x c,R w K x c→R w' K x c) (hO: ∀{w:World} {K K' :Nat→Prop},(∀b,K' b→K b∨w.heap.size≤b)→∀x c,R w K x c→R w K' x c) (hL: ∀{w:World} {K:Nat→Prop} x c,R w K x c→c.length=k)
    {i:Nat} {wr w2:World} {x:α} {c:List Value} (h:CInv R k t g n w l i wr) (hg:w.heap.size≤g) (hx:l[i]?=some x) (hn:l.length≤n) (hb:Below wr.heap.size wr w2) (hc:R w2 (Out (wr.heap.size - 1)) x c):
    CInv R k t g n w l (i+1) (puts w2 g (i * k) c):=by
  obtain ⟨cur,h1,h2,h3⟩:=h.row;have hlt:=zak h1;have hil:=(List.getElem?_eq_some_iff.1 hx).1;have hck:=hL x c hc;have hs:i * k+c.length≤cur.size:=by
    rw [hck,h2,←Nat.succ_mul];exact Nat.mul_le_mul_right _ (by omega)
  obtain ⟨cur',q1,q2,q3⟩:=zi3 g t c w2 (i * k) cur (zab h1 hb) hs;have hch:Chg (Out g) w2 (puts w2 g (i * k) c):=(zbn g c w2 _).mono (fun b e=>by show b≤g;omega);refine⟨(h.bel.trans (hb.mono h.bel.size)).trans ((zbn g c w2 _).below (fun b e=>by rw [e];exact hg) (Nat.le_trans h.bel.size hb.size)),cur',q1,q2.trans h2, ?_⟩
  {
  rw [q3,List.take_append_of_le_length (by rw [List.length_append,List.length_take,Nat.min_eq_left (by simp;omega),hck,Nat.succ_mul];omega)];have e0: (cur.toList.take (i * k)++c).take ((i+1)* k)=cur.toList.take (i * k)++c:=List.take_of_length_le (by rw [List.length_append,List.length_take,Nat.min_eq_left (by simp;omega),hck,Nat.succ_mul];omega);rw [e0,List.take_add_one,hx];have e1:Vs (R (puts w2 g (i * k) c) (Out g)) (l.take i) (cur.toList.take (i * k)):=h3.mono (fun x c hx=>hR hch x c (hR (.of hb _) x c hx));exact e1.app ⟨c, [],by simp,hR hch x c (hO (fun b e=>.inl (by show b≤wr.heap.size - 1;have e:b≤g:=e;omega)) x c hc),rfl⟩
  }
theorem CInv.last {wr:World} (h:CInv R k t g l.length w l l.length wr) (hg:w.heap.size≤g):zhe R k t w l (.returned (.slice (some ⟨g,0,none⟩) l.length l.length)) wr:=by
  obtain ⟨cur,h1,h2,h3⟩:=h.row;rw [List.take_length,List.take_of_length_le (by simp;omega)] at h3;exact⟨⟨g,cur.toList,hg,zak h1,rfl,by simpa using h1,by simpa using h2,h3⟩,h.bel⟩
end
end
section
open Go.RowKit
attribute [local go_sem ↓] Go.wp_at_zero Go.wp_at_succ
theorem zg6 (h:zag w a xs):IsRow w a (vals xs):=by
  rcases h with rfl| ⟨b,off,rfl,hc⟩
  { exact .inl rfl }
  {
  refine .inr ⟨b,off,rfl,fun j u hu=> ?_⟩;have hj:j<xs.length:=by
    have:=(List.getElem?_eq_some_iff.1 hu).1
    simpa [vals] using this
  rw [zc9 xs j hj] at hu;cases hu;exact hc j hj
  }
theorem zgw (h:IsRow w a (vals xs)):zag w a xs:=by
  rcases h with h| ⟨b,off,rfl,hc⟩
  { exact .inl (by simpa [vals] using h) }
  { exact .inr ⟨b,off,rfl,fun i hi=>hc i _ (zc9 xs i hi)⟩ }
theorem new_row (w:World) (vs:List Value) (t:TypeId):IsRow (w.alloc (.cells vs.toArray t)) (some ⟨w.heap.size,0,none⟩) vs:=
  .inr ⟨w.heap.size,0,rfl,fun j u hu=>zaa (heap_alloc_last w _) _ _ (by simpa using hu)⟩
theorem zcq {g:Nat} (h:w.heap[g]?=some (.cells vs.toArray t (0,0))):IsRow w (some ⟨g,0,none⟩) vs:=
  .inr ⟨g,0,rfl,fun j u hu=>zaa h _ _ (by simpa using hu)⟩
def CpI (w:World) (n:Nat) (xs:List Int) (g:Nat) (w' :World):Prop:=w.heap.size≤g∧g<w'.heap.size∧BI w' (some ⟨g,0,none⟩) n xs
theorem zds (w:World) (o1 o2 o3:Obj):Below w.heap.size w (((w.alloc o1).alloc o2).alloc o3):=(bA2).alloc (by simp;omega) _
theorem zdv (w:World) (o1 o2:Obj):Below w.heap.size w ((w.alloc o1).alloc o2):=bA2
theorem new3 (w:World) (o1 o2:Obj) (vs:List Value) (t:TypeId):IsRow (((w.alloc o1).alloc o2).alloc (.cells vs.toArray t)) (some ⟨w.heap.size+1+1,0,none⟩) vs:=zcq (zb9 _ _ _ _)
theorem cpI3 {o1 o2:Obj} (h:xs.length=n) (hm:n≤1000000):CpI w n xs (w.heap.size+1+1) (((w.alloc o1).alloc o2).alloc (.cells (vals xs).toArray t)):=
  ⟨by omega,by simp,⟨zgw (new3 _ _ _ _ _),h,by unfold maxLen;omega⟩⟩
theorem zf0 (m:Ms) (a:Option Addr) (n c:Nat) (w:World) (h:BI w a n m.ws) (hn:n≤1000000):
    Calls Tryz.prog 122 #[msv m a n c] w fun e w' =>(∃g,CpI w n m.ws g w' ∧e=.returned (msv m (some ⟨g,0,none⟩) n n))∧Below w.heap.size w w' :=by
  have HC:=hide (fun W (hW:Below w.heap.size w W)=>zek a n c (vals m.ws) W (zg6 (h.below hW).at_) (by rw [za3,h.len,Nat.mul_one]) (zbu _) hn);have HL:=hide h.len;clear h;unfold msv;go_enter Tryz.func122,Tryz.ntmps122;go_wp2_with fail;refine(zae HC _ (bA2)).mono ?_;rintro e w1 ⟨rfl,rfl⟩;go_wp2_with fail;refine bodyPost_ret (v:=.agg #[.int .i64 m.k,.int .i64 m.u,.int .i64 m.n,.int .i64 m.at',.int .i64 m.im,.slice (some ⟨w.heap.size+1+1,0,none⟩) n n,.bool m.y]) (by simp [results,Tryz.results122,go_sem]) rfl ?_;exact⟨⟨w.heap.size+1+1,cpI3 HL.out (by omega),rfl⟩,zds _ _ _ _⟩
theorem zha (xs:List Int) (fu:Int) (a:Option Addr) (n c:Nat) (w:World) (h:BI w a n xs) (hn:n≤1000000):
    Calls Tryz.prog 118 #[.agg #[.slice a n c,.int .i64 fu]] w fun e w' =>e=.returned (.agg #[.slice (some ⟨w.heap.size+1+1,0,none⟩) n n,.int .i64 fu])∧w' = ((w.alloc (.cells #[.slice (some ⟨w.heap.size+1+1,0,none⟩) n n,.int .i64 fu] 28)).alloc (.cells #[.slice (some ⟨w.heap.size+1+1,0,none⟩) n n,.int .i64 fu] 28)).alloc (.cells (vals xs).toArray 3):=by
  have HC:=hide (fun W (hW:Below w.heap.size w W)=>zek a n c (vals xs) W (zg6 (h.below hW).at_) (by rw [za3,h.len,Nat.mul_one]) (zbu _) hn);clear h;go_enter Tryz.func118,Tryz.ntmps118;go_wp2_with fail;refine(zae HC _ (zdv _ _ _)).mono ?_;rintro e w1 ⟨rfl,rfl⟩;go_wp2_with fail;refine bodyPost_ret (v:=.agg #[.slice (some ⟨w.heap.size+1+1,0,none⟩) n n,.int .i64 fu]) (by simp [results,Tryz.results118,go_sem]) rfl ?_;exact⟨rfl,rfl⟩
theorem zok (u:Un) (a:Option Addr) (n c:Nat) (w:World) (h:BI w a n u.ws) (hn:n≤1000000):
    Calls Tryz.prog 117 #[unv u a n c] w fun e w' =>(∃g,CpI w n u.ws g w' ∧e=.returned (unv u (some ⟨g,0,none⟩) n n))∧Below w.heap.size w w' :=by
  have HC:=hide (fun W (hW:Below w.heap.size w W)=>zha u.ws u.fu a n c W (h.below hW) hn);have HL:=hide h.len;clear h;unfold unv;go_enter Tryz.func117,Tryz.ntmps117;go_wp2_with fail;refine(zae HC _ (zdv _ _ _)).mono ?_;rintro e w1 ⟨rfl,rfl⟩;go_wp2_with fail;refine bodyPost_ret (v:=.agg #[.slice (some ⟨w.heap.size+1+1+1+1,0,none⟩) n n,.int .i64 u.fu,.bool u.up,.int .i64 u.n,.int .i64 u.hv]) (by simp [results,Tryz.results117,go_sem]) rfl ?_;refine⟨⟨w.heap.size+1+1+1+1, ?_,rfl⟩, ?_⟩
  {
  have q:=cpI3 (w:=(w.alloc (.cells #[.slice (some ⟨w.heap.size+1+1+1+1,0,none⟩) n n,.int .i64 u.fu,.bool u.up,.int .i64 u.n,.int .i64 u.hv] 82)).alloc (.cells #[.slice (some ⟨w.heap.size+1+1+1+1,0,none⟩) n n,.int .i64 u.fu,.bool u.up,.int .i64 u.n,.int .i64 u.hv] 82)) (o1:=(.cells #[.slice (some ⟨w.heap.size+1+1+1+1,0,none⟩) n n,.int .i64 u.fu] 28)) (o2:=(.cells #[.slice (some ⟨w.heap.size+1+1+1+1,0,none⟩) n n,.int .i64 u.fu] 28)) (t:=3) HL.out (by omega);simp only [World.size_alloc] at q;exact⟨by omega,by simp,q.2.2⟩
  }
  {
  exact(zdv _ _ _).trans ((zds _ _ _ _).mono (by simp;omega))
  }
theorem zmm (xs:List Int) (a:Option Addr) (n c:Nat) (w:World) (h:BI w a n xs) (hn:n≤1000000):
    Calls Tryz.prog 188 #[.slice a n c] w fun e w' =>e=.returned (.slice (some ⟨w.heap.size,0,none⟩) n n)∧w' =w.alloc (.cells (vals xs).toArray 3):=by
  have HC:=hide (zek a n c (vals xs) w (zg6 h.at_) (by rw [za3,h.len,Nat.mul_one]) (zbu _) hn);clear h;go_enter Tryz.func188,Tryz.ntmps188;go_wp2_with fail;refine(zae HC).mono ?_;rintro e w1 ⟨rfl,rfl⟩;go_wp2_with fail;go_ret;exact⟨rfl,rfl⟩
def strs (ss:List ByteArray):List Value:=ss.map Value.string
theorem strs_row (h:za1 w a ss):IsRow w a (strs ss):=by
  rcases h with rfl| ⟨b,off,rfl,hc⟩
  { exact .inl rfl }
  {
  refine .inr ⟨b,off,rfl,fun j u hu=> ?_⟩;have hj:j<ss.length:=by
    have:=(List.getElem?_eq_some_iff.1 hu).1
    simpa [strs] using this
  simp [strs,hj] at hu
  subst hu;rw [hc j hj]
  simp [hj]
  }
theorem strs_of (h:IsRow w a (strs ss)):za1 w a ss:=by
  rcases h with h| ⟨b,off,rfl,hc⟩
  { exact .inl (by simpa [strs] using h) }
  { exact .inr ⟨b,off,rfl,fun i hi=>hc i _ (by simp [strs,hi])⟩ }
theorem strs_one (ss:List ByteArray): ∀v∈strs ss,v.oneCell' =true:=by
  intro v hv
  simp [strs] at hv
  obtain ⟨x,_,rfl⟩:=hv;rfl
theorem zhj (ss:List ByteArray) (a:Option Addr) (n c:Nat) (w:World) (h:BB w a n c ss) (hn:n≤1000000):
    Calls Tryz.prog 42 #[bookv a n c] w fun e w' =>(∃g,w.heap.size≤g∧g<w'.heap.size∧e=.returned (bookv (some ⟨g,0,none⟩) n n)∧BB w' (some ⟨g,0,none⟩) n n ss)∧Below w.heap.size w w' :=by
  have HC:=hide (fun W (hW:Below w.heap.size w W)=>zph a n c (strs ss) W (strs_row (h.below hW).at_) (by rw [show(strs ss).length=ss.length by simp [strs],h.len,Nat.mul_one]) (strs_one _) hn);have HB:=hide h;clear h;unfold bookv;go_enter Tryz.func42,Tryz.ntmps42;go_wp2_with fail;refine(zae HC _ (zdv _ _ _)).mono ?_;rintro e w1 ⟨rfl,rfl⟩;go_wp2_with fail;refine bodyPost_ret (v:=.agg #[.slice (some ⟨w.heap.size+1+1,0,none⟩) n n]) (by simp [results,Tryz.results42,go_sem]) rfl ?_;exact⟨⟨w.heap.size+1+1,by omega,by simp,rfl,⟨strs_of (new3 _ _ _ _ _),HB.out.len,Nat.le_refl _,HB.out.max,HB.out.short⟩⟩,zds _ _ _ _⟩
end
section
open Go.RowKit
attribute [local go_sem ↓] Go.wp_at_zero Go.wp_at_succ
theorem zn5 (v k:Nat) (hv:v<4) (hk:k<4) (w:World):
    Calls Tryz.prog 101 #[.int .i64 v,.int .i64 k] w fun e w' =>∃g,e=.returned (.slice (some ⟨g,0,none⟩) (3+9 * k+v) (3+9 * k+v))∧w.heap.size≤g∧zat w' g (imgF v k)∧Below w.heap.size w w' :=by
  have HR:=hide (zpe (100 *(v:Int)+k) (some ⟨w.heap.size,0,none⟩) 1 (3+9 * k+v) (by omega) (by omega) (w.alloc (.cells #[.int .i64 (100 *(v:Int)+k)] 3)) (.inr ⟨w.heap.size,0,rfl,fun i hi=>by
    obtain rfl:i=0:=by simpa using hi
    exact zaa (heap_alloc_last w (.cells #[.int .i64 (100 *(v:Int)+k)] 3)) 0 _ rfl⟩))
  have h0: (v:Int)<4:=by omega
  have h1: (k:Int)<4:=by omega
  have hb:Below w.heap.size w (w.alloc (.cells #[.int .i64 (100 *(v:Int)+k)] 3)):=bA1;rw [show(((3+9 * k+v:Nat)):Int)=3+9 *(k:Int)+v by omega] at HR;go_enter Tryz.func101,Tryz.ntmps101;go_wp2_with fail;refine(zae HR).mono ?_;rintro e w' ⟨g,rfl,hg,ho,hb2⟩;go_wp2_with fail;go_ret;exact⟨g,rfl,Nat.le_trans hb.size hg,ho,(bT hb hb2)⟩
structure BkS (w:World) (F B:Nat) (v:Value) (ss:List ByteArray):Prop where
  box:w.heap[B]?=some (.cells #[v] 24 (0,0))
  row:w.ownsRow F 9 1 v ss.length (strs ss)
def NmAns (w:World) (F B:Nat) (v:Value) (ss:List ByteArray) (s:ByteArray) (e:Ending) (w' :World):Prop:=
  e=.returned (.int .i64 (nmF ss s:Int))∧∃v',BkS w' F B v' (adF ss s)∧Chg (fun b=>b=B∨v.ownBlock=some b) w w' ∧(v'.ownBlock=v.ownBlock∨∃g,v'.ownBlock=some g∧w.heap.size≤g)
theorem zbk {k:Nat} {v:Value} (h:w.ownsRow F t k v n vs): ∃a c,v=.slice a n c:=by
  rcases h.2 with ⟨e,e0⟩| ⟨g,cap,cur,e,-⟩
  { exact⟨none,0,by rw [e,e0]⟩ }
  { exact⟨_,_,e⟩ }
theorem zn2 {c:Nat} (h:w.ownsRow F 9 1 (.slice a n c) n (strs ss)) (hl:ss.length=n):za1 w a ss:=by
  rcases h.2 with ⟨e,e0⟩| ⟨g,cap,cur,e,-,hg,-⟩
  { exact .inl (List.eq_nil_of_length_eq_zero (by omega)) }
  {
  cases e;exact strs_of (.inr ⟨g,0,rfl,fun j u hu=>by have:=h.cells (g:=g) rfl j u hu;rwa [zc2] at this⟩)
  }
theorem ty_ne {cs' :Array Value} {t' :TypeId} {f f' :Nat×Nat} (h:w.heap[b]?=some (.cells cs t f)) (h' :w.heap[b']?=some (.cells cs' t' f')) (ht:t≠t'):b≠b' :=by
  intro e;subst e;rw [h] at h';cases h';exact ht rfl
theorem own_ty {k:Nat} {v:Value} (h:w.ownsRow F t k v n vs) {g:Nat} (hg:v.ownBlock=some g): ∃cur,w.heap[g]?=some (.cells cur t (0,0)):=by
  rcases h.2 with ⟨e,-⟩| ⟨g',cap,cur,e,-,h2,-⟩
  { rw [e] at hg;cases hg }
  {
  rw [e] at hg;have:g' =g:=by simpa [Value.ownBlock] using hg
  rw [←this];exact⟨cur,h2⟩
  }
theorem zb1 {t' :TypeId} {k:Nat} {v:Value} (h:w.ownsRow F t k v n vs) {f:Nat×Nat} (hb:w.heap[b]?=some (.cells cs t' f)) (ht:t≠t'):v.ownBlock≠some b:=fun e=>by
  obtain ⟨cur,hc⟩:=own_ty h e;exact ty_ne hc hb ht rfl
theorem box1_set {B:Nat} {v u:Value} (h:w.heap[B]?=some (.cells #[v] t (0,0))): (w.setCell ⟨B,0,none⟩ u).heap[B]?=some (.cells #[u] t (0,0)):=by
  simp only [World.setCell,Array.getElem?_modify]
  simp [h]
theorem infoStr: (Tryz.prog.info? 9).map (fun i=>(i.zero,i.size,i.bytes))=some (some (.string ⟨#[]⟩),1,16):=by kernel_rfl
theorem zix (F B:Nat) (v:Value) (ss:List ByteArray) (s:ByteArray) (w:World) (h:BkS w F B v ss) (hn:ss.length≤1000) (hF:F≤w.heap.size):
    Calls Tryz.prog 99 #[.string s,.pointer (some ⟨B,0,none⟩)] w (NmAns w F B v ss s):=by
  obtain ⟨a,c,rfl⟩:=zbk h.row;have y0:=zaa h.box 0 _ rfl;have z0:=zad h.box 0;have HI:=hide (zgv a ss.length c ss s w (zn2 h.row rfl) rfl (by unfold maxLen;omega));have HB:=hide h;have hnI: (ss.length:Int)≤1000:=by omega
  by_cases hq:nameN ss s=0
  {
  have e1:Hid (nmF ss s=ss.length+1):=by show _=_;unfold nmF;rw [if_neg (by simpa using hq)]
  have e2:Hid (adF ss s=ss++ [s]):=by show _=_;unfold adF;rw [if_neg (by simpa using hq)]
  rw [hq] at HI;clear hq h;go_enter Tryz.func99,Tryz.ntmps99;go_wp2_with fail;refine(zae HI).mono ?_;rintro e w1 ⟨rfl,rfl⟩;have hb:Below w1.heap.size w1 (w1.alloc (.cells #[.string s] 9)):=bA1;have hrw:=HB.out.row.alloc (.cells #[.string s] 9);obtain ⟨irr,hir,rz0,rz1,rz2⟩:=info_parts infoStr;obtain ⟨g,cap,w4,hr4,ho4,hg4,hat4,hlt4⟩:=run_append_lies (P:=Tryz.prog) _ 22 22 F 9 irr _ 1 16 Tryz.underlying22 hir rz0 rz1 rz2 rfl (by omega) _ ss.length (strs ss) hrw ⟨w1.heap.size,0,none⟩ 1 1 [.string s] rfl (World.news_of_block (heap_alloc_last w1 (.cells #[.string s] 9))) (by simp [Value.oneCell']) (by omega) (by unfold maxLen;omega) (by omega) (by simp;omega) _ rfl;have HR4:=hide hr4;have hne: (Value.slice a ss.length c).ownBlock≠some B:=zb1 HB.out.row HB.out.box (by decide);have hx4:Hid (w4.heap[B]?=some (.cells #[.slice a ss.length c] 24 (0,0))):=by show _=_;rw [hg4.block B (Nat.lt_of_lt_of_le (zak HB.out.box) hb.size) (fun e=>hne e.symm)];exact zab HB.out.box hb
  have HG:Hid (g≠B):=by
    rcases hat4 with h|h
    { exact fun e=>hne (by rw [h,e]) }
    {
    intro e;have:=zak HB.out.box
    simp at h
    omega
    }
  have y4:=zaa hx4.out 0 _ rfl;have z4:=zad hx4.out 0;have HFin:Hid (NmAns w1 F B (.slice a ss.length c) ss s (.returned (.int .i64 ((ss.length+1:Nat):Int))) (w4.setCell ⟨B,0,none⟩ (.slice (some ⟨g,0,none⟩) (ss.length+1) cap))):=by
    have hc4:Chg (fun b=>b=B∨(Value.slice a ss.length c).ownBlock=some b) w1 w4:=(Chg.of hb _).trans (Chg.grown hg4 fun b e=>.inr e);refine⟨by rw [e1.out],.slice (some ⟨g,0,none⟩) (ss.length+1) cap,⟨box1_set hx4.out, ?_⟩,hc4.set (p:=⟨B,0,none⟩) (.inl rfl) _, ?_⟩
    {
    rw [e2.out];have:=ho4.kept (row:=some B) (w' :=w4.setCell ⟨B,0,none⟩ (.slice (some ⟨g,0,none⟩) (ss.length+1) cap)) ⟨rfl,rfl,rfl,by simp [World.setCell],fun k _ hn=>Below.heap_setCell _ _ _ _ (fun e=>hn (by rw [e]))⟩ (.inr (fun e=>HG.out (by simpa [Value.ownBlock] using e)))
    simpa [strs] using this
    }
    {
    rcases hat4 with h|h
    { exact .inl (by rw [h];rfl) }
    { exact .inr ⟨g,rfl,by rw [h];exact hb.size⟩ }
    }
  clear hr4 ho4 hg4 hat4 hlt4 hrw hne hb hir rz0 rz1 rz2 HG hx4 e1 e2 HI
  go_wp2_with (at_builtin;refine Lib.wpList_append_run _ rfl _ _ 22 22 rfl _ _ rfl rfl _ _ HR4.out ?_)
  go_ret;exact HFin.out
  }
  {
  have e1:Hid (nmF ss s=nameN ss s):=by show _=_;unfold nmF;rw [if_pos hq]
  have e2:Hid (adF ss s=ss):=by show _=_;unfold adF;rw [if_pos hq]
  have hle:Hid (nameN ss s≤ss.length):=zoc ss s;generalize nameN ss s=q at *;have hqI: (0:Int)≤(q:Int)- 1:=by omega
  have hq2: (q:Int)≤1000:=by have:=hle.out;omega
  have HFin:Hid (NmAns w F B (.slice a ss.length c) ss s (.returned (.int .i64 (q:Int))) w):=⟨by rw [e1.out],_,by rw [e2.out];exact h,Chg.refl _ _,.inl rfl⟩;clear h hq e1 e2;go_enter Tryz.func99,Tryz.ntmps99;go_wp2_with fail;refine(zae HI).mono ?_;rintro e w1 ⟨rfl,rfl⟩;go_wp2_with fail;go_ret;exact HFin.out
  }
end
section
open Go.RowKit
structure VB where
  B:Nat
  bu:Nat
  bc:Nat
  bn:Nat
def KV (Z:Nat→Prop) (q:VB) (b:Nat):Prop:=Z b∨b=q.B∨b=q.bu∨b=q.bc∨b=q.bn
structure ROwn {α:Type} (R:World→(Nat→Prop)→α→List Value→Prop) (k:Nat) (t:TypeId) (w:World) (F:Nat) (K:Nat→Prop) (a:Option Addr) (n c b:Nat) (l:List α):Prop where
  at_:a=some ⟨b,0,none⟩
  row: ∃vs,w.ownsRow F t k (.slice a n c) n vs∧Vs (R w K) l vs
  len:l.length=n
structure VOwn (w:World) (F:Nat) (Z:Nat→Prop) (q:VB) (m:VA) (v:Vh):Prop where
  box:w.heap[q.B]?=some (vhO v m)
  ss:BB w m.ab m.nb m.cb v.ss
  sg:BG w m.sa m.ns v.sg
  g:GIn w m.g v.g
  ob:Ao v.ss (KV Z q) m.ab
  os:Ao v.sg (KV Z q) m.sa
  og:GO (KV Z q) m.g v.g
  us:ROwn UR 5 82 w F (KV Z q) m.au m.nu m.cu q.bu v.us
  cs:ROwn CR 5 94 w F (KV Z q) m.ac m.nc m.cc q.bc v.cs
  net:ROwn MR 7 99 w F (KV Z q) m.an m.nn m.cn q.bn v.net
  fB:F≤q.B
  fZ: ∀b,Z b→b<w.heap.size∧b≠q.bu∧b≠q.bc∧b≠q.bn
  n1:q.B≠q.bu
  n2:q.B≠q.bc
  n3:q.B≠q.bn
  n4:q.bu≠q.bc
  n5:q.bu≠q.bn
  n6:q.bc≠q.bn
section
variable {α:Type} {R:World→(Nat→Prop)→α→List Value→Prop} {k:Nat} {t:TypeId} {K K' :Nat→Prop} {w w' :World} {F:Nat} {a:Option Addr} {n c b:Nat} {l:List α}
theorem ROwn.lt (h:ROwn R k t w F K a n c b l):F≤b∧b<w.heap.size:=by
  obtain ⟨vs,h1,-⟩:=h.row;have:=h.at_;subst this;exact h1.lt b rfl
theorem ROwn.caps (h:ROwn R k t w F K a n c b l):n≤c∧c≤maxLen:=by
  obtain ⟨vs,⟨-,h1⟩,-⟩:=h.row
  rcases h1 with ⟨e,h0⟩| ⟨g,cap,cur,e,-,-,h2,h3,-⟩
  { cases e;exact⟨Nat.le_refl _,by decide⟩ }
  { cases e;exact⟨h2,h3⟩ }
theorem ROwn.chg (hR: ∀{w w' :World} {K:Nat→Prop},Chg K w w' →∀x c,R w K x c→R w' K x c) (h:ROwn R k t w F K a n c b l) (hc:Chg K w w') (hb:w'.heap[b]?=w.heap[b]?):ROwn R k t w' F K a n c b l:=by
  obtain ⟨vs,⟨h0,h1⟩,h2⟩:=h.row;refine⟨h.at_,⟨vs,⟨h0, ?_⟩,h2.mono (hR hc)⟩,h.len⟩
  rcases h1 with h1| ⟨g,cap,cur,e,h3,h4,h5⟩
  { exact .inl h1 }
  {
  have:=h.at_;subst this;cases e;exact .inr ⟨_,_,cur,rfl,h3,hb.trans h4,h5⟩
  }
theorem ROwn.wide (hO: ∀{w:World} {K K' :Nat→Prop},(∀b,K' b→K b∨w.heap.size≤b)→∀x c,R w K x c→R w K' x c) (h:ROwn R k t w F K a n c b l) (hK: ∀b,K' b→K b∨w.heap.size≤b):ROwn R k t w F K' a n c b l:=by
  obtain ⟨vs,h1,h2⟩:=h.row;exact⟨h.at_,⟨vs,h1,h2.mono (hO hK)⟩,h.len⟩
theorem ROwn.rin (hO: ∀{w:World} {K K' :Nat→Prop},(∀b,K' b→K b∨w.heap.size≤b)→∀x c,R w K x c→R w K' x c) (h:ROwn R k t w F K a n c b l) (hK: ∀b,K' b→K b) (hb: ¬K' b):RIn R w K' a n c l:=by
  obtain ⟨vs,h1,h2⟩:=h.row;have hcap:=h.caps;have hat:=h.at_;subst hat;have hr:IsRow w (some ⟨b,0,none⟩) vs:=.inr ⟨b,0,rfl,fun j u hu=>by have:=h1.cells (g:=b) rfl j u hu;rwa [zc2] at this⟩;exact⟨⟨vs,hr,h2.mono (hO fun b e=>.inl (hK b e)),.at_ hb⟩,h.len,hcap.1,Nat.le_trans hcap.1 hcap.2⟩
theorem ROwn.isRow (h:ROwn R k t w F K a n c b l): ∃vs,w.ownsRow F t k (.slice a n c) n vs∧IsRow w a vs∧Vs (R w K) l vs:=by
  obtain ⟨vs,h1,h2⟩:=h.row;have hat:=h.at_;subst hat;exact⟨vs,h1,.inr ⟨b,0,rfl,fun j u hu=>by have:=h1.cells (g:=b) rfl j u hu;rwa [zc2] at this⟩,h2⟩
end
theorem VOwn.vin {q:VB} (h:VOwn w F Z q m v):VIn w Z m v:=by
  have k: ∀b,Z b→KV Z q b:=fun b e=>.inl e
  have k2: ∀b,Z b→KV Z q b∨w.heap.size≤b:=fun b e=>.inl (.inl e)
  exact⟨h.ss,h.sg,h.g,h.us.rin UR.off k (fun e=>(h.fZ _ e).2.1 rfl),h.cs.rin CR.off k (fun e=>(h.fZ _ e).2.2.1 rfl),h.net.rin MR.off k (fun e=>(h.fZ _ e).2.2.2 rfl),h.ob.mono k,h.os.mono k,h.og.wide h.g k2⟩
theorem kv_net {q:VB} {s:Nat} (hb:b' =q.bn∨s≤b') (e:KV Z ⟨q.B,q.bu,q.bc,b'⟩ b):KV Z q b∨s≤b:=by
  rcases e with e|e|e|e|e
  { exact .inl (.inl e) }
  { exact .inl (.inr (.inl e)) }
  { exact .inl (.inr (.inr (.inl e))) }
  { exact .inl (.inr (.inr (.inr (.inl e)))) }
  {
  have e:b=b' :=e;subst e;exact hb.imp (fun h=>.inr (.inr (.inr (.inr h)))) id
  }
theorem kv_camp {q:VB} {s:Nat} (hb:b' =q.bc∨s≤b') (e:KV Z ⟨q.B,q.bu,b',q.bn⟩ b):KV Z q b∨s≤b:=by
  rcases e with e|e|e|e|e
  { exact .inl (.inl e) }
  { exact .inl (.inr (.inl e)) }
  { exact .inl (.inr (.inr (.inl e))) }
  {
  have e:b=b' :=e;subst e;exact hb.imp (fun h=>.inr (.inr (.inr (.inl h)))) id
  }
  { exact .inl (.inr (.inr (.inr (.inr e)))) }
theorem kv_B {q:VB} (e:b=q.B):KV Z q b:=.inr (.inl e)
theorem kv_bu {q:VB} (e:b=q.bu):KV Z q b:=.inr (.inr (.inl e))
theorem kv_bc {q:VB} (e:b=q.bc):KV Z q b:=.inr (.inr (.inr (.inl e)))
theorem kv_bn {q:VB} (e:b=q.bn):KV Z q b:=.inr (.inr (.inr (.inr e)))
theorem VOwn.below {w' :World} {q:VB} (h:VOwn w F Z q m v) (hb:Below w.heap.size w w'):VOwn w' F Z q m v:=by
  have hc:Chg (KV Z q) w w' :=.of hb _;exact⟨zab h.box hb,h.ss.below hb,h.sg.below hb,h.g.below hb,h.ob,h.os,h.og,h.us.chg UR.chg hc (hb.block _ h.us.lt.2),h.cs.chg CR.chg hc (hb.block _ h.cs.lt.2),h.net.chg MR.chg hc (hb.block _ h.net.lt.2),h.fB,fun b e=>⟨Nat.lt_of_lt_of_le (h.fZ b e).1 hb.size,(h.fZ b e).2⟩,h.n1,h.n2,h.n3,h.n4,h.n5,h.n6⟩
theorem VOwn.boxed {w' :World} {q:VB} {g:Gt} {k:GA} {now:Int} (h:VOwn w F Z q m v) (hc:Chg (fun b=>b=q.B) w w')
    (hbx:w'.heap[q.B]?=some (vhO ⟨v.ss,v.sg,g,v.us,v.cs,v.net,now⟩ ⟨m.ab,m.nb,m.cb,m.sa,m.ns,m.cs,k,m.au,m.nu,m.cu,m.ac,m.nc,m.cc,m.an,m.nn,m.cn⟩)) (hg:GIn w k g) (hog:GO (KV Z q) k g):
    VOwn w' F Z q ⟨m.ab,m.nb,m.cb,m.sa,m.ns,m.cs,k,m.au,m.nu,m.cu,m.ac,m.nc,m.cc,m.an,m.nn,m.cn⟩ ⟨v.ss,v.sg,g,v.us,v.cs,v.net,now⟩:=by
  have hK:Chg (KV Z q) w w' :=hc.mono fun b e=>.inr (.inl e)
  exact⟨hbx,⟨h.ss.at_.chg hK h.ob,h.ss.len,h.ss.cap,h.ss.max,h.ss.short⟩,⟨h.sg.at_.chg hK h.os,h.sg.len,h.sg.max⟩,hg.chg hK hog,h.ob,h.os,hog,h.us.chg UR.chg hK (hc.block _ h.us.lt.2 (fun e=>h.n1 e.symm)),h.cs.chg CR.chg hK (hc.block _ h.cs.lt.2 (fun e=>h.n2 e.symm)),h.net.chg MR.chg hK (hc.block _ h.net.lt.2 (fun e=>h.n3 e.symm)),h.fB,fun b e=>⟨Nat.lt_of_lt_of_le (h.fZ b e).1 hc.size,(h.fZ b e).2⟩,h.n1,h.n2,h.n3,h.n4,h.n5,h.n6⟩
theorem zdu {B:Nat} (h:w.heap[B]?=some (.cells cs t (0,0))) (i:Nat) (u:Value): (w.setCell ⟨B,i,none⟩ u).heap[B]?=some (.cells (cs.setIfInBounds i u) t (0,0)):=by
  simp only [World.setCell,Array.getElem?_modify]
  simp [h]
theorem VOwn.setNow {q:VB} (h:VOwn w F Z q m v) (x:Int):VOwn (w.setCell ⟨q.B,14,none⟩ (.int .i64 x)) F Z q m ⟨v.ss,v.sg,v.g,v.us,v.cs,v.net,x⟩:=
  h.boxed ((Chg.refl (fun b=>b=q.B) _).set rfl _) (zdu h.box 14 _) h.g h.og
theorem VOwn.setFuel {q:VB} (h:VOwn w F Z q m v) (x:Int):VOwn (w.setCell ⟨q.B,3,none⟩ (.int .i64 x)) F Z q m ⟨v.ss,v.sg,⟨v.g.ws,x,v.g.up,v.g.t,v.g.vo,v.g.di⟩,v.us,v.cs,v.net,v.now⟩:=
  h.boxed (g:=⟨v.g.ws,x,v.g.up,v.g.t,v.g.vo,v.g.di⟩) ((Chg.refl (fun b=>b=q.B) _).set rfl _) (zdu h.box 3 _) ⟨h.g.ws,h.g.ks,h.g.vo,h.g.di⟩ ⟨h.og.a,h.og.ak,h.og.av,h.og.ad⟩
theorem vh_gate {B:Nat} (h:w.heap[B]?=some (vhO v m)) (g:Gt) (k:GA): (puts w B 2 [.slice k.a k.n k.c,.int .i64 g.fu,.bool g.up,.int .i64 g.t.r.v,.slice k.ak k.nk k.ck,.int .i64 g.t.r.t,.int .i64 g.t.ver,.slice k.av k.nv k.cv,.slice k.ad k.nd k.cd]).heap[B]?=some (vhO ⟨v.ss,v.sg,g,v.us,v.cs,v.net,v.now⟩ ⟨m.ab,m.nb,m.cb,m.sa,m.ns,m.cs,k,m.au,m.nu,m.cu,m.ac,m.nc,m.cc,m.an,m.nn,m.cn⟩):=by
  unfold vhO vhC at *;simp only [puts,World.setCell,Array.getElem?_modify]
  simp [h]
theorem VOwn.setGate {q:VB} (h:VOwn w F Z q m v) {g:Gt} {k:GA} (hg:GIn w k g) (ho:GO (KV Z q) k g):
    VOwn (puts w q.B 2 [.slice k.a k.n k.c,.int .i64 g.fu,.bool g.up,.int .i64 g.t.r.v,.slice k.ak k.nk k.ck,.int .i64 g.t.r.t,.int .i64 g.t.ver,.slice k.av k.nv k.cv,.slice k.ad k.nd k.cd]) F Z q ⟨m.ab,m.nb,m.cb,m.sa,m.ns,m.cs,k,m.au,m.nu,m.cu,m.ac,m.nc,m.cc,m.an,m.nn,m.cn⟩ ⟨v.ss,v.sg,g,v.us,v.cs,v.net,v.now⟩:=
  h.boxed (zbn _ _ _ _) (vh_gate h.box g k) hg ho
theorem VOwn.setNet {w1:World} {q:VB} (h:VOwn w F Z q m v) {c:Nat} {l:List Ms} (hc:Chg (fun b=>b=q.bn) w w1) (hb:b' =q.bn∨w.heap.size≤b') (ho:w1.ownsRow F 99 7 (.slice (some ⟨b',0,none⟩) n c) n vs)
    (hv:Vs (MR w1 (KV Z ⟨q.B,q.bu,q.bc,b'⟩)) l vs) (hl:l.length=n):
    VOwn (w1.setCell ⟨q.B,13,none⟩ (.slice (some ⟨b',0,none⟩) n c)) F Z ⟨q.B,q.bu,q.bc,b'⟩ ⟨m.ab,m.nb,m.cb,m.sa,m.ns,m.cs,m.g,m.au,m.nu,m.cu,m.ac,m.nc,m.cc,some ⟨b',0,none⟩,n,c⟩ ⟨v.ss,v.sg,v.g,v.us,v.cs,l,v.now⟩:=by
  have hB:=zak h.box;have lu:=h.us.lt;have lc:=h.cs.lt;have ln:=h.net.lt;have d1:=h.n1;have d2:=h.n2;have d3:=h.n3;have d4:=h.n4;have d5:=h.n5;have d6:=h.n6;have hw: ∀b,KV Z ⟨q.B,q.bu,q.bc,b'⟩ b→KV Z q b∨w.heap.size≤b:=fun b e=>kv_net hb e
  have hK2:Chg (fun b=>b=q.B) w1 (w1.setCell ⟨q.B,13,none⟩ (.slice (some ⟨b',0,none⟩) n c)):=(Chg.refl (fun b=>b=q.B) _).set rfl _;have hcK:Chg (fun b=>KV Z q b∨w.heap.size≤b) w (w1.setCell ⟨q.B,13,none⟩ (.slice (some ⟨b',0,none⟩) n c)):=(hc.mono fun b e=>.inl (kv_bn e)).trans (hK2.mono fun b e=>.inl (kv_B e));have hne: ∀b,b<w.heap.size→b≠q.bn→b≠q.B→(w1.setCell ⟨q.B,13,none⟩ (.slice (some ⟨b',0,none⟩) n c)).heap[b]?=w.heap[b]?:=fun b h1 h2 h3=>(hK2.block b (Nat.lt_of_lt_of_le h1 hc.size) h3).trans (hc.block b h1 h2)
  have a1:=h.ss.at_.wide h.ob (K' :=fun b=>KV Z q b∨w.heap.size≤b) (fun b e=>e);have a2:=h.sg.at_.wide h.os (K' :=fun b=>KV Z q b∨w.heap.size≤b) (fun b e=>e);have a3:=h.og.wide h.g (K' :=fun b=>KV Z q b∨w.heap.size≤b) (fun b e=>e);have a4:=h.g.chg hcK a3;have hlt:=ho.lt b' rfl;have hnew:ROwn MR 7 99 (w1.setCell ⟨q.B,13,none⟩ (.slice (some ⟨b',0,none⟩) n c)) F (KV Z ⟨q.B,q.bu,q.bc,b'⟩) (some ⟨b',0,none⟩) n c b' l:=
    ⟨rfl,⟨vs,ho.kept (row:=some q.B) ⟨rfl,rfl,rfl,by simp [World.setCell],fun k _ hn=>Below.heap_setCell _ _ _ _ (fun e=>hn (by rw [e]))⟩ (.inr (fun e=>by have e:=Option.some.inj (show some b' =some q.B from e);omega)),hv.mono (MR.chg (hK2.mono (K' :=KV Z ⟨q.B,q.bu,q.bc,b'⟩) fun b e=>.inr (.inl e)))⟩,hl⟩
  exact⟨zdu (by rw [hc.block _ hB (by omega)];exact h.box) 13 _,⟨h.ss.at_.chg hcK a1,h.ss.len,h.ss.cap,h.ss.max,h.ss.short⟩,⟨h.sg.at_.chg hcK a2,h.sg.len,h.sg.max⟩,a4,a1.mono hw,a2.mono hw,⟨a3.a.mono hw,a3.ak.mono hw,a3.av.mono hw,a3.ad.mono hw⟩,
    ((h.us.wide UR.off (K' :=fun b=>KV Z q b∨w.heap.size≤b) (fun b e=>e)).chg UR.chg hcK (hne _ (by omega) (by omega) (by omega))).wide UR.off (fun b e=>.inl (hw b e)),((h.cs.wide CR.off (K' :=fun b=>KV Z q b∨w.heap.size≤b) (fun b e=>e)).chg CR.chg hcK (hne _ (by omega) (by omega) (by omega))).wide CR.off (fun b e=>.inl (hw b e)),hnew,h.fB,(fun b e=>by have z:=h.fZ b e;have zs:=hcK.size;dsimp only;omega),by dsimp only;omega,by dsimp only;omega,by dsimp only;omega,by dsimp only;omega,by dsimp only;omega,by dsimp only;omega⟩
theorem VOwn.setCamps {w1:World} {q:VB} (h:VOwn w F Z q m v) {c:Nat} {l:List Cp} (hc:Chg (fun b=>b=q.bc) w w1) (hb:b' =q.bc∨w.heap.size≤b') (ho:w1.ownsRow F 94 5 (.slice (some ⟨b',0,none⟩) n c) n vs)
    (hv:Vs (CR w1 (KV Z ⟨q.B,q.bu,b',q.bn⟩)) l vs) (hl:l.length=n):
    VOwn (w1.setCell ⟨q.B,12,none⟩ (.slice (some ⟨b',0,none⟩) n c)) F Z ⟨q.B,q.bu,b',q.bn⟩ ⟨m.ab,m.nb,m.cb,m.sa,m.ns,m.cs,m.g,m.au,m.nu,m.cu,some ⟨b',0,none⟩,n,c,m.an,m.nn,m.cn⟩ ⟨v.ss,v.sg,v.g,v.us,l,v.net,v.now⟩:=by
  have hB:=zak h.box;have lu:=h.us.lt;have lc:=h.cs.lt;have ln:=h.net.lt;have d1:=h.n1;have d2:=h.n2;have d3:=h.n3;have d4:=h.n4;have d5:=h.n5;have d6:=h.n6;have hw: ∀b,KV Z ⟨q.B,q.bu,b',q.bn⟩ b→KV Z q b∨w.heap.size≤b:=fun b e=>kv_camp hb e
  have hK2:Chg (fun b=>b=q.B) w1 (w1.setCell ⟨q.B,12,none⟩ (.slice (some ⟨b',0,none⟩) n c)):=(Chg.refl (fun b=>b=q.B) _).set rfl _;have hcK:Chg (fun b=>KV Z q b∨w.heap.size≤b) w (w1.setCell ⟨q.B,12,none⟩ (.slice (some ⟨b',0,none⟩) n c)):=(hc.mono fun b e=>.inl (kv_bc e)).trans (hK2.mono fun b e=>.inl (kv_B e));have hne: ∀b,b<w.heap.size→b≠q.bc→b≠q.B→(w1.setCell ⟨q.B,12,none⟩ (.slice (some ⟨b',0,none⟩) n c)).heap[b]?=w.heap[b]?:=fun b h1 h2 h3=>(hK2.block b (Nat.lt_of_lt_of_le h1 hc.size) h3).trans (hc.block b h1 h2)
  have a1:=h.ss.at_.wide h.ob (K' :=fun b=>KV Z q b∨w.heap.size≤b) (fun b e=>e);have a2:=h.sg.at_.wide h.os (K' :=fun b=>KV Z q b∨w.heap.size≤b) (fun b e=>e);have a3:=h.og.wide h.g (K' :=fun b=>KV Z q b∨w.heap.size≤b) (fun b e=>e);have a4:=h.g.chg hcK a3;have hlt:=ho.lt b' rfl;have hnew:ROwn CR 5 94 (w1.setCell ⟨q.B,12,none⟩ (.slice (some ⟨b',0,none⟩) n c)) F (KV Z ⟨q.B,q.bu,b',q.bn⟩) (some ⟨b',0,none⟩) n c b' l:=
    ⟨rfl,⟨vs,ho.kept (row:=some q.B) ⟨rfl,rfl,rfl,by simp [World.setCell],fun k _ hn=>Below.heap_setCell _ _ _ _ (fun e=>hn (by rw [e]))⟩ (.inr (fun e=>by have e:=Option.some.inj (show some b' =some q.B from e);omega)),hv.mono (CR.chg (hK2.mono (K' :=KV Z ⟨q.B,q.bu,b',q.bn⟩) fun b e=>.inr (.inl e)))⟩,hl⟩
  exact⟨zdu (by rw [hc.block _ hB (by omega)];exact h.box) 12 _,⟨h.ss.at_.chg hcK a1,h.ss.len,h.ss.cap,h.ss.max,h.ss.short⟩,⟨h.sg.at_.chg hcK a2,h.sg.len,h.sg.max⟩,a4,a1.mono hw,a2.mono hw,⟨a3.a.mono hw,a3.ak.mono hw,a3.av.mono hw,a3.ad.mono hw⟩,
    ((h.us.wide UR.off (K' :=fun b=>KV Z q b∨w.heap.size≤b) (fun b e=>e)).chg UR.chg hcK (hne _ (by omega) (by omega) (by omega))).wide UR.off (fun b e=>.inl (hw b e)),hnew,((h.net.wide MR.off (K' :=fun b=>KV Z q b∨w.heap.size≤b) (fun b e=>e)).chg MR.chg hcK (hne _ (by omega) (by omega) (by omega))).wide MR.off (fun b e=>.inl (hw b e)),h.fB,(fun b e=>by have z:=h.fZ b e;have zs:=hcK.size;dsimp only;omega),by dsimp only;omega,by dsimp only;omega,by dsimp only;omega,by dsimp only;omega,by dsimp only;omega,by dsimp only;omega⟩
theorem VOwn.setUnit {w' :World} {q:VB} (h:VOwn w F Z q m v) {i:Nat} {u u' :Un} {c:Nat} (hi:v.us[i]?=some u) (hu:BW w a n c u'.ws) (ho:Ao u'.ws (KV Z q) a)
    (hw:w' =puts w q.bu (i * 5) [.slice a n c,.int .i64 u'.fu,.bool u'.up,.int .i64 u'.n,.int .i64 u'.hv]):VOwn w' F Z q m ⟨v.ss,v.sg,v.g,v.us.set i u',v.cs,v.net,v.now⟩:=by
  subst hw;have hB:=zak h.box;have lu:=h.us.lt;have lc:=h.cs.lt;have ln:=h.net.lt;have d1:=h.n1;have d4:=h.n4;have d5:=h.n5;have hc:=zbn q.bu [.slice a n c,.int .i64 u'.fu,.bool u'.up,.int .i64 u'.n,.int .i64 u'.hv] w (i * 5);have hcK:Chg (KV Z q) w (puts w q.bu (i * 5) [.slice a n c,.int .i64 u'.fu,.bool u'.up,.int .i64 u'.n,.int .i64 u'.hv]):=hc.mono fun b e=>kv_bu e
  have hat:=h.us.at_;have hus:=h.us.row;rw [hat] at hus;obtain ⟨vs,⟨l0,l1⟩,l2⟩:=hus;obtain ⟨p,cc,r,e1,e2,e3,e4⟩:=l2.put UR.len hi (d:= [.slice a n c,.int .i64 u'.fu,.bool u'.up,.int .i64 u'.n,.int .i64 u'.hv]) ⟨a,n,c,rfl,hu,ho⟩;have hlc:=UR.len _ _ e3
  rcases l1 with ⟨l1,-⟩| ⟨gg,cap,cur,l1,l3,l4,l5,l6,l7,l8⟩
  { cases l1 }
  cases l1;have hsz:i * 5+5≤cur.size:=by
    have hx:vs.length≤cur.size:=by rw [←l8,List.length_take,Array.length_toList];exact Nat.min_le_right _ _
    rw [e1,List.length_append,List.length_append,e2,hlc] at hx;omega
  obtain ⟨cur',q1,q2,q3⟩:=zi3 q.bu _ [.slice a n c,.int .i64 u'.fu,.bool u'.up,.int .i64 u'.n,.int .i64 u'.hv] w (i * 5) cur l4 (by simpa using hsz);have hmx:vs.length=m.nu * 5:=l0;have hfit:m.nu * 5≤cur.size:=by rw [l7];exact Nat.mul_le_mul_right _ l5
  have hvl:m.nu * 5=i * 5+(5+r.length):=by rw [←l0,e1,List.length_append,List.length_append,e2,hlc]
  have hcl:cur.toList=p++(cc++(r++cur.toList.drop (m.nu * 5))):=by
    have:=(List.take_append_drop (m.nu * 5) cur.toList).symm;rw [l8,e1] at this
    simpa only [List.append_assoc] using this
  have hrow: (cur'.toList).take (m.nu * 5)=p++([.slice a n c,.int .i64 u'.fu,.bool u'.up,.int .i64 u'.n,.int .i64 u'.hv]++r):=by
    have hp:cur.toList.take (i * 5)=p:=by rw [hcl,←e2,List.take_left]
    have hr:cur.toList.drop (i * 5+5)=r++cur.toList.drop (m.nu * 5):=by
      have e:i * 5+5= (p++cc).length:=by rw [List.length_append,e2,hlc]
      generalize cur.toList.drop (m.nu * 5)=z at *;rw [hcl,e,←List.append_assoc,List.drop_left]
    rw [q3,hp,show i * 5+List.length [Value.slice a n c,.int .i64 u'.fu,.bool u'.up,.int .i64 u'.n,.int .i64 u'.hv]=i * 5+5 from rfl,hr];have e:m.nu * 5= (p++([Value.slice a n c,.int .i64 u'.fu,.bool u'.up,.int .i64 u'.n,.int .i64 u'.hv]++r)).length:=by simp [e2];omega
    rw [e];simp only [←List.append_assoc];rw [List.take_left]
  refine⟨by rw [hc.block _ hB d1];exact h.box,⟨h.ss.at_.chg hcK h.ob,h.ss.len,h.ss.cap,h.ss.max,h.ss.short⟩,⟨h.sg.at_.chg hcK h.os,h.sg.len,h.sg.max⟩,h.g.chg hcK h.og,h.ob,h.os,h.og,⟨hat,⟨_,⟨?_,.inr ⟨q.bu,m.cu,cur',by rw [hat],l3,q1,l5,l6,q2.trans l7,hrow⟩⟩,e4.mono (UR.chg hcK)⟩,by simpa using h.us.len⟩,h.cs.chg CR.chg hcK (hc.block _ lc.2 (fun e=>d4 e.symm)),h.net.chg MR.chg hcK (hc.block _ ln.2 (fun e=>d5 e.symm)),h.fB,fun b e=>⟨Nat.lt_of_lt_of_le (h.fZ b e).1 hc.size,(h.fZ b e).2⟩,h.n1,h.n2,h.n3,h.n4,h.n5,h.n6⟩;rw [←l0,e1]
  simp [hlc]
  omega
theorem VOwn.addZ {w1:World} {q:VB} (h:VOwn w F Z q m v) (hb:Below w.heap.size w w1):VOwn w1 F (fun b=>Z b∨(w.heap.size≤b∧b<w1.heap.size)) q m v:=by
  have h1:=zak h.box;have h2:=h.us.lt;have h3:=h.cs.lt;have h4:=h.net.lt;have hK: ∀b,KV (fun b=>Z b∨(w.heap.size≤b∧b<w1.heap.size)) q b→KV Z q b∨w.heap.size≤b:=fun b e=>by
    rcases e with (e|e)|e
    · exact .inl (.inl e)
    · exact .inr e.1
    · exact .inl (.inr e)
  exact⟨zab h.box hb,h.ss.below hb,h.sg.below hb,h.g.below hb,h.ss.at_.wide h.ob hK,h.sg.at_.wide h.os hK,h.og.wide h.g hK,(h.us.wide UR.off hK).chg UR.chg (.of hb _) (hb.block _ h2.2),(h.cs.wide CR.off hK).chg CR.chg (.of hb _) (hb.block _ h3.2),(h.net.wide MR.off hK).chg MR.chg (.of hb _) (hb.block _ h4.2),h.fB,fun b e=>by
    have hs:=hb.size
    rcases e with e|e
    · have:=h.fZ b e;omega
    · omega,h.n1,h.n2,h.n3,h.n4,h.n5,h.n6⟩
theorem VOwn.lessZ {Z' :Nat→Prop} {q:VB} (h:VOwn w F Z q m v) (hZ: ∀b,Z' b→Z b):VOwn w F Z' q m v:=by
  have hK: ∀b,KV Z' q b→KV Z q b∨w.heap.size≤b:=fun b e=>.inl (by rcases e with e|e;exact .inl (hZ b e);exact .inr e)
  exact⟨h.box,h.ss,h.sg,h.g,h.ss.at_.wide h.ob hK,h.sg.at_.wide h.os hK,h.og.wide h.g hK,h.us.wide UR.off hK,h.cs.wide CR.off hK,h.net.wide MR.off hK,h.fB,fun b e=>h.fZ b (hZ b e),h.n1,h.n2,h.n3,h.n4,h.n5,h.n6⟩
theorem VOwn.putZ {q:VB} (h:VOwn w F Z q m v) {r o:Nat} (hr:Z r) (hB:r≠q.B) (c:List Value):VOwn (puts w r o c) F Z q m v:=by
  have hc:=zbn r c w o;have hK:Chg (KV Z q) w (puts w r o c):=hc.mono fun b e=>.inl (by have e:b=r:=e;rw [e];exact hr)
  obtain ⟨z0,z1,z2,z3⟩:=h.fZ r hr;exact⟨by rw [hc.block _ (zak h.box) (fun e=>hB e.symm)];exact h.box,⟨h.ss.at_.chg hK h.ob,h.ss.len,h.ss.cap,h.ss.max,h.ss.short⟩,⟨h.sg.at_.chg hK h.os,h.sg.len,h.sg.max⟩,h.g.chg hK h.og,h.ob,h.os,h.og,h.us.chg UR.chg hK (hc.block _ h.us.lt.2 (fun e=>z1 e.symm)),h.cs.chg CR.chg hK (hc.block _ h.cs.lt.2 (fun e=>z2 e.symm)),h.net.chg MR.chg hK (hc.block _ h.net.lt.2 (fun e=>z3 e.symm)),h.fB,fun b e=>by rw [zl5];exact h.fZ b e,h.n1,h.n2,h.n3,h.n4,h.n5,h.n6⟩
end
end Go.Proofs.YthmekfcgdfckaaaGreatDoor
