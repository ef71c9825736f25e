/- The contract of wainwrightref.OwnFlash: a flash in memory of its own. 'append' where the two arguments' types bear unlike names. The contracts of log.erasing, programming and inTurn: steps, one behind the other, as far as there is power. The contract of log.inTurn. The contract of log.parse: the records of a sector, and the words behind them. The contracts of log.Format and log.Records. -/
import Derived.Test.YthmekfcgdfckaaaGreatDoorWn2
import Derived.Deep.AppendLies
import Derived.Test.YthmekfcgdfckaaaGreatDoorWn0
import Derived.Deep.DeepCutAuto
set_option maxRecDepth 1000000
set_option maxHeartbeats 0
namespace Go.Proofs.YthmekfcgdfckaaaGreatDoor
variable {w w' :World} {g b:Nat} {xs ws r l:List Int} {a:Option Addr} {rs:List (List Int)} {v:Value}
section
open Go.RowKit
attribute [local go_sem ↓] Go.wp_at_zero Go.wp_at_succ
def za5 (w:World) (g:Nat) (xs:List Int):Prop:=∃cur:Array Value,w.heap[g]?=some (.cells cur 3 (0,0))∧cur.toList.take xs.length=vals xs
theorem za5.get {cur:Array Value} (_h:w.heap[g]?=some (.cells cur 3 (0,0))) (h2:cur.toList.take xs.length=vals xs) (i:Nat) (hi:i<xs.length):cur[i]?=some (.int .i64 (xs.getD i 0)):=by
  have:=zc9 xs i hi;rw [←h2] at this
  simpa [hi] using this
theorem za5.cell (h:za5 w g xs) (i:Nat) (hi:i<xs.length):w.cell? ⟨g,i,none⟩=some (.int .i64 (xs.getD i 0)):=by
  obtain ⟨cur,h1,h2⟩:=h;exact zaa h1 i _ (za5.get h1 h2 i hi)
theorem za5.free (h:za5 w g xs) (i:Nat):w.frozen? ⟨g,i,none⟩=false:=by
  obtain ⟨cur,h1,_⟩:=h;exact zad h1 i
theorem za5.isInts (h:za5 w g xs):zag w (some ⟨g,0,none⟩) xs:=
  .inr ⟨g,0,rfl,fun i hi=>by rw [Nat.zero_add];exact h.cell i hi⟩
theorem za5.lt (h:za5 w g xs):g<w.heap.size:=by
  obtain ⟨cur,h1,_⟩:=h;exact zak h1
theorem za5.below {B:Nat} (h:za5 w g xs) (hb:Below B w w') (hg:g<B):za5 w' g xs:=by
  obtain ⟨cur,h1,h2⟩:=h;exact⟨cur,by rw [hb.block g hg];exact h1,h2⟩
theorem za5.other (h:za5 w g xs) (b i:Nat) (v:Value) (hb:g≠b):za5 (w.setCell ⟨b,i,none⟩ v) g xs:=by
  obtain ⟨cur,h1,h2⟩:=h;exact⟨cur,by rw [Below.heap_setCell _ _ _ _ hb];exact h1,h2⟩
theorem za5.set (h:za5 w g xs) (i:Nat) (v:Int):za5 (w.setCell ⟨g,i,none⟩ (.int .i64 v)) g (xs.set i v):=by
  obtain ⟨cur,h1,h2⟩:=h;refine⟨cur.setIfInBounds i (.int .i64 v), ?_, ?_⟩
  {
  simp only [World.setCell,Array.getElem?_modify]
  simp [h1]
  }
  {
  simp only [List.length_set,Array.toList_setIfInBounds];rw [List.take_set,h2]
  simp [vals]
  }
end
section
open Go.RowKit
theorem zm9 (t t' ty e e' :TypeId) (i:TypeInfo) (ht:Tryz.prog.underlying t=some (.slice e)) (ht' :Tryz.prog.underlying t' =some (.slice e')) (hi:Tryz.prog.info? e=some i) (v x:Value) (w:World):
    (Builtin.append_ #[t,t'] ty #[v,x]).run Tryz.prog w= (Builtin.append_ #[t,t] ty #[v,x]).run Tryz.prog w:=by
  unfold Builtin.append_;cases v<;>simp [run_underlying ht,run_underlying ht',sizeOf,typeInfo,hi]
theorem zf4 {ops:Array Oper} {o:Oper} {a:Act} {K:Act→World→Prop} {Q:Exit→Act→World→Prop} {E:Prop} (w:World) (hgd:o.guard=none) (s x:Operand) (t t' :TypeId)
    (ho:o.op=.call { callee:=.builtin .append,args:=#[s,x],argTypes:=#[t,t'] })
    (base:Nat) (e e' :TypeId) (i:TypeInfo) (z:Value) (size bytes:Nat) (ht:Tryz.prog.underlying t=some (.slice e)) (ht' :Tryz.prog.underlying t' =some (.slice e')) (hi:Tryz.prog.info? e=some i) (hz:i.zero=some z)
    (hsize:i.size=size) (hby:i.bytes=bytes) (hzs:z.cells.size=size) (hsz:0<size)
    (v:Value) (n:Nat) (xs:List Value) (hs:a.eval s=v) (hown:w.ownsRow base e size v n xs)
    (ad:Addr) (m c:Nat) (news:List Value) (hx:a.eval x=.slice (some ad) m c) (hl:news.length=m * size) (hnews: ∀j u,news[j]?=some u→w.cell? (ad.add j)=some u) (h1: ∀u∈news,u.oneCell' =true)
    (hm:0<m) (h63:n+m≤maxLen) (hbytes: (n+m)* bytes≤140737488355328) (hbase:base≤w.heap.size) (H:Nat) (hH:w.heap.size=H)
    (h: ∀g cap w',w'.ownsRow base e size (.slice (some ⟨g,0,none⟩) (n+m) cap) (n+m) (xs++news)→w.grownBy w' v.ownBlock→(v.ownBlock=some g∨g=H)→g<w'.heap.size→K (a.put o.dst (.slice (some ⟨g,0,none⟩) (n+m) cap)) w'):
    if Region.wanted o (yielded ops a.tmps)=true then Oper.wp Tryz.prog o a w K Q else E:=by
  have hw:Region.wanted o (yielded ops a.tmps)=true:=by simp [Region.wanted,hgd]
  rw [if_pos hw];obtain ⟨g,cap,w',hr,h2,h3,h4,h5⟩:=run_append_lies (P:=Tryz.prog) w t o.type base e i z size bytes ht hi hz hsize hby hzs hsz v n xs hown ad m c news hl hnews h1 hm h63 hbytes hbase H hH;unfold Oper.wp execOp;simp only [ho,resolve,invoke,builtin,Sem.run_bind,Sem.run_pure,Result.andThen_ok,List.map_toArray,List.map_cons,List.map_nil,hs,hx,zm9 t t' _ e e' i ht ht' hi,hr];exact h g cap w' h2 h3 h4 h5
theorem zl8 {off:Nat} (h:zag w (some ⟨b,off,none⟩) ws): ∀j u,(vals ws)[j]?=some u→w.cell? ((⟨b,off,none⟩:Addr).add j)=some u:=by
  intro j v hv;have hj:j<ws.length:=by
    have:=(List.getElem?_eq_some_iff.1 hv).1
    simpa [vals] using this
  rcases h with rfl| ⟨b',off',e,hc⟩
  { simp at hj }
  cases e;rw [zc9 ws j hj] at hv;cases hv;have hcj:=hc j hj
  by_cases hj0:j=0
  { subst hj0;simpa [Addr.add] using hcj }
  {
  simpa [Addr.add,hj0] using hcj
  }
theorem zag.nonempty (h:zag w a ws) (hn:0<ws.length): ∃b off,a=some ⟨b,off,none⟩:=by
  rcases h with rfl| ⟨b,off,e,_⟩
  { simp at hn }
  {
  exact⟨b,off,e⟩
  }
theorem zag.low {B:Nat} {off:Nat} (h:zag w (some ⟨b,off,none⟩) xs) (hb:Below B w w') (hlt:b<B):zag w' (some ⟨b,off,none⟩) xs:=by
  rcases h with h| ⟨b',off',e,hc⟩
  { exact .inl h }
  {
  cases e;exact .inr ⟨b,off,rfl,fun i hi=>by rw [hb.cell hlt];exact hc i hi⟩
  }
def zck (w:World) (a:Option Addr) (rs:List (List Int)):Prop:=
  rs= []∨∃b off,a=some ⟨b,off,none⟩∧∀(i:Nat) (r:List Int),rs[i]?=some r→∃ai ci,w.cell? ⟨b,off+i,none⟩=some (Value.slice ai r.length ci)∧zag w ai r∧r.length≤ci∧ci≤maxLen
theorem zck.below (h:zck w a rs) (hb:Below w.heap.size w w'):zck w' a rs:=by
  rcases h with h| ⟨b,off,rfl,hc⟩
  { exact .inl h }
  {
  refine .inr ⟨b,off,rfl,fun i r hi=> ?_⟩;obtain ⟨ai,ci,h1,h2,h3⟩:=hc i r hi;exact⟨ai,ci,by rw [hb.cell (zah h1)];exact h1,h2.below hb,h3⟩
  }
structure zbp (w0 wr:World) (v:Value) (rs:List (List Int)):Prop where
  own: ∃vs:List Value,wr.ownsRow w0.heap.size 208 1 v rs.length vs∧∀(i:Nat) (r:List Int),rs[i]?=some r→∃g c,vs[i]?=some (Value.slice (some ⟨g,0,none⟩) r.length c)∧za5 wr g r∧r.length≤c∧c≤maxLen
  below:Below w0.heap.size w0 wr
theorem zpg {w0 wr:World} (h:Below w0.heap.size w0 wr):zbp w0 wr (.slice none 0 0) []:=⟨⟨[],World.ownsRow_nil _ _ _ _,by simp⟩,h⟩
theorem zgb: (Tryz.prog.info? 208).map (fun i=>(i.zero,i.size,i.bytes))=some (some (.slice none 0 0),1,24):=by kernel_rfl
theorem zhi {wa w1:World} {base:Nat} {e:TypeId} {n:Nat} {xs:List Value} (h:za5 wa g r) (hown:wa.ownsRow base e 1 v n xs) (hne:e≠3) (hg:wa.grownBy w1 v.ownBlock):za5 w1 g r:=by
  obtain ⟨cur,h1,h2⟩:=h;refine⟨cur, ?_,h2⟩;rw [hg.block g (zak h1) ?_]
  { exact h1 }
  {
  intro e';obtain ⟨_,⟨hv,_⟩| ⟨g',cap,cur',hv,hg',hh,_⟩⟩:=hown
  { rw [hv] at e';cases e' }
  {
  rw [hv] at e';have:g=g' :=by simpa [Value.ownBlock] using e'
  subst this;rw [h1] at hh
  simp at hh
  exact hne hh.2.symm
  }
  }
theorem zbp.isRecs {w0:World} (h:zbp w0 w v rs): ∃a c,v=.slice a rs.length c∧rs.length≤c∧c≤maxLen∧zck w a rs:=by
  obtain ⟨vs,hown,hr⟩:=h.own;obtain ⟨_,⟨hv,hn⟩| ⟨g,cap,cur,hv,hg,hh,hc,hm,_,ht⟩⟩:=hown
  { exact⟨none,0,by rw [hv,hn],by omega,by unfold maxLen;omega,.inl (List.eq_nil_of_length_eq_zero hn)⟩ }
  {
  refine⟨some ⟨g,0,none⟩,cap,hv,hc,hm,.inr ⟨g,0,rfl,fun i r hi=> ?_⟩⟩;obtain ⟨gi,ci,h1,h2,h3,h4⟩:=hr i r hi;have hlt:i<rs.length:=(List.getElem?_eq_some_iff.1 hi).1;refine⟨_,ci, ?_,h2.isInts,h3,h4⟩;rw [Nat.zero_add];refine zaa hh i _ ?_;rw [←ht] at h1
  simpa [hlt] using h1
  }
theorem zbp.step {w0 wr wa w1:World} {v' :Value} {c:Nat} {vs:List Value} (hbe:Below w0.heap.size w0 wr) (hown:wr.ownsRow w0.heap.size 208 1 v rs.length vs)
    (hr: ∀(i:Nat) (r:List Int),rs[i]?=some r→∃g c,vs[i]?=some (Value.slice (some ⟨g,0,none⟩) r.length c)∧za5 wr g r∧r.length≤c∧c≤maxLen)
    (hba:Below wr.heap.size wr wa) (hc:za5 wa g r) (hlc:r.length≤c) (hcm:c≤maxLen)
    (happ:w1.ownsRow w0.heap.size 208 1 v' (rs.length+1) (vs++ [Value.slice (some ⟨g,0,none⟩) r.length c])) (hgrow:wa.grownBy w1 v.ownBlock):zbp w0 w1 v' (rs++ [r]):=by
  have hown' :=zba hown hba;have hbw:Below w0.heap.size w0 wa:=bT hbe hba;refine⟨⟨vs++ [Value.slice (some ⟨g,0,none⟩) r.length c], ?_, ?_⟩, ?_⟩
  {
  rw [List.length_append];exact happ
  }
  {
  have hvl:vs.length=rs.length:=by have:=hown.1;omega
  intro i q hi
  by_cases hlt:i<rs.length
  {
  rw [List.getElem?_append_left hlt] at hi;obtain ⟨gi,ci,h1,h2,h3⟩:=hr i q hi;refine⟨gi,ci,by rw [List.getElem?_append_left (by omega)];exact h1, ?_,h3⟩;obtain ⟨cur,hh,ht⟩:=h2;exact zhi ⟨cur,zab hh hba,ht⟩ hown' (by decide) hgrow
  }
  {
  have hlt2:i< (rs++ [r]).length:=(List.getElem?_eq_some_iff.1 hi).1
  simp at hlt2
  obtain rfl:i=rs.length:=by omega
  rw [List.getElem?_append_right (Nat.le_refl _)] at hi
  simp at hi
  subst hi;refine⟨g,c,by rw [List.getElem?_append_right (by omega),hvl];simp,zhi hc hown' (by decide) hgrow,hlc,hcm⟩
  }
  }
  {
  exact hbw.grown hgrow (Nat.le_trans hbe.size hba.size) (zc5 hown)
  }
theorem zjq {base n cap:Nat} (h:w.ownsRow base 3 1 (.slice (some ⟨g,0,none⟩) n cap) n (vals ws)) (hn:ws.length=n):za5 w g ws∧base≤g∧n≤cap∧cap≤maxLen:=by
  obtain ⟨_,⟨hv,_⟩| ⟨g',cap',cur,hv,hg,hh,hc,hm,_,ht⟩⟩:=h
  { cases hv }
  {
  cases hv;exact⟨⟨cur,hh,by rw [hn];simpa using ht⟩,hg,hc,hm⟩
  }
theorem zos (h:za5 w g xs) (hb:Below w.heap.size w w'):za5 w' g xs:=h.below hb h.lt
end
section
open Go.RowKit
attribute [local go_sem ↓] Go.wp_at_zero Go.wp_at_succ
abbrev Stp:=Sum Nat (Nat×List Int)
abbrev Stp.era (s:Nat):Stp:=Sum.inl s
abbrev Stp.prg (p:Nat) (words:List Int):Stp:=Sum.inr (p,words)
def doS:Stp→List Int→Int→List Int×Int×Int
  | .inl s,ws,fuel=>eraS ws fuel s
  | .inr (p,words),ws,fuel=>progS ws fuel p words
def turnS:List Stp→List Int→Int→List Int×Int×Int
  | [],ws,f=>(ws,f,0)
  |st::r,ws,f=>if(doS st ws f).2.2≠0 then doS st ws f else turnS r (doS st ws f).1 (doS st ws f).2.1
def zdg (w:World) (v:Value):Stp→Prop
  | .inl s=>∃b,v=.func (.func 249) #[] #[.pointer (some ⟨b,0,none⟩)]∧w.cell? ⟨b,0,none⟩=some (.int .i64 s)∧s≤100
  | .inr (p,words)=>∃b1 b2 a n c,v=.func (.func 251) #[] #[.pointer (some ⟨b1,0,none⟩),.pointer (some ⟨b2,0,none⟩)]∧w.cell? ⟨b1,0,none⟩=some (.int .i64 p)∧w.cell? ⟨b2,0,none⟩=some (.slice a n c)∧zag w a words∧words.length=n∧n≤100∧p≤1000
theorem zdg.below {st:Stp} (h:zdg w v st) (hb:Below w.heap.size w w'):zdg w' v st:=by
  cases st with
  |inl s=>
    obtain ⟨b,h1,h2,h3⟩:=h;exact⟨b,h1,by rw [hb.cell (zah h2)];exact h2,h3⟩
  |inr q=>
    obtain ⟨p,words⟩:=q;obtain ⟨b1,b2,a,n,c,h1,h2,h3,h4,h5⟩:=h;exact⟨b1,b2,a,n,c,h1,by rw [hb.cell (zah h2)];exact h2,by rw [hb.cell (zah h3)];exact h3,h4.below hb,h5⟩
def zd0 (w:World) (a:Option Addr) (sts:List Stp):Prop:=
  ∃b,a=some ⟨b,0,none⟩∧∀(i:Nat) (st:Stp),sts[i]?=some st→∃v,w.cell? ⟨b,i,none⟩=some v∧zdg w v st
theorem zd0.below {sts:List Stp} (h:zd0 w a sts) (hb:Below w.heap.size w w'):zd0 w' a sts:=by
  obtain ⟨b,rfl,hc⟩:=h;refine⟨b,rfl,fun i st hi=> ?_⟩;obtain ⟨v,h1,h2⟩:=hc i st hi;exact⟨v,by rw [hb.cell (zah h1)];exact h1,h2.below hb⟩
theorem zpy (b:Nat) (s:Nat) (a:Option Addr) (n c:Nat) (ws:List Int) (fuel:Int) (w:World) (hc:w.cell? ⟨b,0,none⟩=some (.int .i64 s)) (h:zag w a ws) (hn:ws.length=n) (hm:n≤maxLen):
    Calls Tryz.prog 249 #[.agg #[.slice a n c,.int .i64 fuel],.pointer (some ⟨b,0,none⟩)] w (zbf w (eraS ws fuel s)):=by
  have HE:=hide (fun W (h:zag W a ws)=>zl0 a n c ws fuel s W h hn hm);have hw:Below w.heap.size w ((w.alloc (.cells #[.slice a n c,.int .i64 fuel] 28)).alloc (.cells #[.slice none 0 0,.int .i64 0] 28)):=
    bA2
  have b1: ((w.alloc (.cells #[.slice a n c,.int .i64 fuel] 28)).alloc (.cells #[.slice none 0 0,.int .i64 0] 28)).heap[w.heap.size+1]?=some (.cells #[.slice none 0 0,.int .i64 0] 28 (0,0)):=
    by simpa using heap_alloc_last (w.alloc _) _
  have hc2:=(hw.cell (zah hc)).trans hc;have i0:=h.below hw;have B1:=hide b1;clear b1 hn;go_enter Tryz.func249,Tryz.ntmps249;go_wp2_with fail;generalize (w.alloc (.cells #[.slice a n c,.int .i64 fuel] 28)).alloc (.cells #[.slice none 0 0,.int .i64 0] 28)=W at *;refine(zae HE _ i0).mono ?_;rintro e w1 ⟨⟨a1,n1,c1,rfl,hi1,hn1,hc1,hf1⟩,hb1⟩;have q0:=zaa (zab B1.out hb1) 0 _ rfl;have q1:=zaa (zab B1.out hb1) 1 _ rfl;have q2:=zad (zab B1.out hb1) 0;have q3:=zad (zab B1.out hb1) 1;have ltB:=zak B1.out;have hw1:=bT hw hb1;have HN1:=hide hn1;clear hn1;go_wp2;refine bodyPost_ret (v:=.tuple #[.agg #[.slice a1 n1 c1,.int .i64 (eraS ws fuel s).2.1],.int .i64 (eraS ws fuel s).2.2]) (by simp [results,Tryz.results249,go_sem,q0,q1]) rfl ?_;exact⟨⟨a1,n1,c1,rfl,(hi1.other hf1 ltB 0 _).other hf1 ltB 1 _,HN1.out,hc1,zal.mono hf1 hw.size⟩,(hw1.setCell (by simp) _).setCell (by simp) _⟩
theorem zox (b1 b2:Nat) (p:Nat) (a2:Option Addr) (n2 c2:Nat) (words:List Int) (a:Option Addr) (n c:Nat) (ws:List Int) (fuel:Int) (w:World) (hc1:w.cell? ⟨b1,0,none⟩=some (.int .i64 p)) (hc2:w.cell? ⟨b2,0,none⟩=some (.slice a2 n2 c2))
    (h2:zag w a2 words) (hn2:words.length=n2) (hm2:n2≤100) (hp:p≤1000) (h:zag w a ws) (hn:ws.length=n) (hm:n≤maxLen):
    Calls Tryz.prog 251 #[.agg #[.slice a n c,.int .i64 fuel],.pointer (some ⟨b1,0,none⟩),.pointer (some ⟨b2,0,none⟩)] w (zbf w (progS ws fuel p words)):=by
  have HE:=hide (fun W (h:zag W a ws) (h2:zag W a2 words)=>zf9 a n c ws fuel p a2 n2 c2 words W h hn hm h2 hn2 (by unfold maxLen;omega) (by omega));have hw:Below w.heap.size w ((w.alloc (.cells #[.slice a n c,.int .i64 fuel] 28)).alloc (.cells #[.slice none 0 0,.int .i64 0] 28)):=
    bA2
  have b1' : ((w.alloc (.cells #[.slice a n c,.int .i64 fuel] 28)).alloc (.cells #[.slice none 0 0,.int .i64 0] 28)).heap[w.heap.size+1]?=some (.cells #[.slice none 0 0,.int .i64 0] 28 (0,0)):=
    by simpa using heap_alloc_last (w.alloc _) _
  have k1:=(hw.cell (zah hc1)).trans hc1;have k2:=(hw.cell (zah hc2)).trans hc2;have i0:=h.below hw;have i2:=h2.below hw;have B1:=hide b1';clear b1' hn hn2;go_enter Tryz.func251,Tryz.ntmps251;go_wp2_with fail;generalize (w.alloc (.cells #[.slice a n c,.int .i64 fuel] 28)).alloc (.cells #[.slice none 0 0,.int .i64 0] 28)=W at *;refine(zae HE _ i0 i2).mono ?_;rintro e w1 ⟨⟨a1,n1,c1,rfl,hi1,hn1,hc1',hf1⟩,hb1⟩;have q0:=zaa (zab B1.out hb1) 0 _ rfl;have q1:=zaa (zab B1.out hb1) 1 _ rfl;have q2:=zad (zab B1.out hb1) 0;have q3:=zad (zab B1.out hb1) 1;have ltB:=zak B1.out;have hw1:=bT hw hb1;have HN1:=hide hn1;clear hn1;go_wp2;refine bodyPost_ret (v:=.tuple #[.agg #[.slice a1 n1 c1,.int .i64 (progS ws fuel p words).2.1],.int .i64 (progS ws fuel p words).2.2]) (by simp [results,Tryz.results251,go_sem,q0,q1]) rfl ?_;exact⟨⟨a1,n1,c1,rfl,(hi1.other hf1 ltB 0 _).other hf1 ltB 1 _,HN1.out,hc1',zal.mono hf1 hw.size⟩,(hw1.setCell (by simp) _).setCell (by simp) _⟩
theorem zgx {st:Stp} {r:List Stp} {f:Int} (h: (doS st ws f).2.2≠0):turnS (st::r) ws f=doS st ws f:=by
  show(if _ then _ else _)=_;rw [if_pos h]
theorem zjb {st:Stp} {r:List Stp} {f:Int} (h: (doS st ws f).2.2=0):turnS (st::r) ws f=turnS r (doS st ws f).1 (doS st ws f).2.1:=by
  show(if _ then _ else _)=_;rw [if_neg (by simpa using h)]
theorem doS_len {st:Stp} {f:Int} (h: (doS st ws f).2.2=0): (doS st ws f).1.length=ws.length:=by
  cases st with
  |inl s=>
    simp only [doS] at h⊢;unfold eraS at h⊢
    split at h
    { rename_i h1;exact absurd h h1 }
    {
    rename_i h1
    split at h
    { simp at h }
    {
    rename_i h2
    rw [if_neg h1,if_neg h2,zbw]
    }
    }
  |inr q=>
    obtain ⟨p,words⟩:=q;simp only [doS] at h⊢;unfold progS at h⊢
    split at h
    { rename_i h1;exact absurd h h1 }
    {
    rename_i h1
    split at h
    { simp at h }
    {
    rename_i h2
    split at h
    { simp at h }
    {
    rename_i h3
    rw [if_neg h1,if_neg h2,if_neg h3,zbw]
    }
    }
    }
end
section
open Go.RowKit
attribute [local go_sem ↓] Go.wp_at_zero Go.wp_at_succ
def TurnSt (w:World) (B n k:Nat) (ws:List Int) (f:Int) (wr:World):Prop:=
  ∃a c,wr.heap[B]?=some (.cells #[.slice a n c,.int .i64 f] 28 (0,0))∧zag wr a ws∧ws.length=n∧(k=0∨(zal (w.heap.size+2) a∧n≤c))
theorem zkr (a:Option Addr) (n c:Nat) (ws:List Int) (fuel:Int) (al:Option Addr) (L cl:Nat) (sts:List Stp) (w:World) (h:zag w a ws) (hn:ws.length=n) (hm:n≤maxLen) (hst:zd0 w al sts) (hL:sts.length=L) (hL1:1≤L) (hL2:L≤100):
    Calls Tryz.prog 201 #[.agg #[.slice a n c,.int .i64 fuel],.slice al L cl] w (zbf w (turnS sts ws fuel)):=by
  have hw:Below w.heap.size w ((w.alloc (.cells #[.slice a n c,.int .i64 fuel] 28)).alloc (.cells #[.slice none 0 0,.int .i64 0] 28)):=
    bA2
  have b0:=zai (heap_alloc_last w (.cells #[.slice a n c,.int .i64 fuel] 28)) (.cells #[.slice none 0 0,.int .i64 0] 28);have b1: ((w.alloc (.cells #[.slice a n c,.int .i64 fuel] 28)).alloc (.cells #[.slice none 0 0,.int .i64 0] 28)).heap[w.heap.size+1]?=some (.cells #[.slice none 0 0,.int .i64 0] 28 (0,0)):=
    by simpa using heap_alloc_last (w.alloc _) _
  have hstart:TurnSt w w.heap.size n 0 ws fuel ((w.alloc (.cells #[.slice a n c,.int .i64 fuel] 28)).alloc (.cells #[.slice none 0 0,.int .i64 0] 28)):=⟨a,c,b0,h.below hw,hn,.inl rfl⟩;have B1:=hide b1;have HL:=hide hL;clear hL b0 b1 hn h;obtain ⟨bs,rfl,hsteps⟩:=hst;have HS:=hide hsteps;clear hsteps;go_enter Tryz.func201,Tryz.ntmps201;go_wp2;generalize (w.alloc (.cells #[.slice a n c,.int .i64 fuel] 28)).alloc (.cells #[.slice none 0 0,.int .i64 0] 28)=W at *
  go_loopw [11] (fun i wr=>∃(k:Nat) (us:List Int) (f:Int),k≤L∧i=.int .i64 k∧TurnSt w w.heap.size n k us f wr∧Hid (wr.heap[w.heap.size+1]?=some (.cells #[.slice none 0 0,.int .i64 0] 28 (0,0)))∧Below w.heap.size w wr∧Hid (turnS sts ws fuel=turnS (sts.drop k) us f)) (fun i _=>L - (intOf i).toNat)
  case atStart=>exact⟨0,ws,fuel,Nat.zero_le _,rfl,hstart,B1,hw,by show _=_;rw [List.drop_zero]⟩
  case round=>
    obtain ⟨k,us,f,hk,rfl,⟨a1,c1,hbox,hi,hlen,hfr⟩,hz,hbe,hl⟩:=hrel;have x0:=zaa hbox 0 _ rfl;have x1:=zaa hbox 1 _ rfl;have HBox:=hide hbox;have HLen:=hide hlen;clear hbox hlen
    by_cases hlt:k<L
    {
    have hkl:k<sts.length:=by rw [HL.out];exact hlt
    obtain ⟨v,hv,hsv⟩:=HS.out k sts[k] (List.getElem?_eq_getElem hkl);have hd:Hid (sts.drop k=sts[k]::sts.drop (k+1)):=List.drop_eq_getElem_cons hkl;have hv' :wr.cell? ⟨bs,k,none⟩=some v:=by rw [hbe.cell (zah hv)];exact hv
    replace hsv:=hsv.below hbe;obtain ⟨st,hst⟩: ∃st,st=sts[k]:=⟨_,rfl⟩;rw [←hst] at hsv hd;clear hst hv;have HC:Hid (∃fn caps,v=.func (.func fn) #[] caps∧(fn=249∧(∃p,caps=#[p])∨fn=251∧∃p q,caps=#[p,q])∧Calls Tryz.prog fn (#[.agg #[.slice a1 n c1,.int .i64 f]]++caps) wr (zbf wr (doS st us f))):=by
      cases st with
      |inl s=>
        obtain ⟨b,h1,h2,h3⟩:=hsv;exact⟨_,_,h1,.inl ⟨rfl,_,rfl⟩,zpy b s a1 n c1 us f wr h2 hi HLen.out hm⟩
      |inr q=>
        obtain ⟨p,words⟩:=q;obtain ⟨p1,p2,a2,n2,c2,h1,h2,h3,h4,h5,h6,h7⟩:=hsv;exact⟨_,_,h1,.inr ⟨rfl,_,_,rfl⟩,zox p1 p2 p a2 n2 c2 words a1 n c1 us f wr h2 h3 h4 h5 h6 h7 hi HLen.out hm⟩
    obtain ⟨fn,caps,rfl,hcaps,hcall⟩:=HC.out;have HCall:=hide hcall;clear HC hcall hsv;have lt0:=zak HBox.out;have lt1:=zak hz.out;have z0: (k:Int)< (L:Int):=by omega
    rcases hcaps with ⟨rfl,p,rfl⟩| ⟨rfl,p,q,rfl⟩
    all_goals
      go_wp2_with fail;refine(zae HCall).mono ?_;rintro e w1 ⟨⟨a2,n2,c2,rfl,hi2,hn2,hc2,hf2⟩,hb2⟩;have y0:=zaa (zab HBox.out hb2) 0 _ rfl;have y1:=zaa (zab HBox.out hb2) 1 _ rfl;have y2:=zad (zab HBox.out hb2) 0;have y3:=zad (zab HBox.out hb2) 1;have u0:=zaa (zab hz.out hb2) 0 _ rfl;have u1:=zaa (zab hz.out hb2) 1 _ rfl;have u2:=zad (zab hz.out hb2) 0;have u3:=zad (zab hz.out hb2) 1;have hbe2:=bT hbe hb2;have HN2:=hide hn2;have HI2:=hide hi2;have HF2:=hide hf2;clear hn2 hi2 hf2
      by_cases e1: (doS st us f).2.2=0
      {
      have e1' : ((doS st us f).2.2 !=0)=false:=by simpa using e1
      have hl2:Hid (turnS sts ws fuel=turnS (sts.drop (k+1)) (doS st us f).1 (doS st us f).2.1):=by show _=_;rw [hl.out,hd.out,zjb e1]
      have hlen2:Hid ((doS st us f).1.length=n):=by show _=_;rw [doS_len e1];exact HLen.out
      obtain rfl:n2=n:=by rw [←HN2.out,hlen2.out]
      rw [e1] at *;clear e1;go_wp2
      go_roundw
      case rel=>
        refine⟨k+1,(doS st us f).1,(doS st us f).2.1,by omega,by go_num,⟨a2,c2, ?_,(HI2.out.other HF2.out lt0 0 _).other HF2.out lt0 1 _,hlen2.out,.inr ⟨zal.mono HF2.out (by omega),hc2⟩⟩, ?_,(hbe2.setCell (by simp) _).setCell (by simp) _,hl2⟩
        {
        have:=zab HBox.out hb2;simp only [World.setCell,Array.getElem?_modify]
        simp [this]
        }
        {
        show _=_
        rw [Below.heap_setCell _ _ _ _ (by simp),Below.heap_setCell _ _ _ _ (by simp)];exact zab hz.out hb2
        }
      case measure=>simp [intOf];omega
      }
      {
      have e1' : ((doS st us f).2.2 !=0)=true:=by simpa using e1
      have hl2:Hid (turnS sts ws fuel=doS st us f):=by show _=_;rw [hl.out,hd.out,zgx e1]
      clear e1;go_wp2;refine bodyPost_ret (v:=.tuple #[.agg #[.slice a2 n2 c2,.int .i64 (doS st us f).2.1],.int .i64 (doS st us f).2.2]) (by simp [results,Tryz.results201,go_sem,u0,u1]) rfl ?_;rw [hl2.out];exact⟨⟨a2,n2,c2,rfl,(((HI2.out.other HF2.out lt0 0 _).other HF2.out lt0 1 _).other HF2.out lt1 0 _).other HF2.out lt1 1 _,HN2.out,hc2,zal.mono HF2.out (by omega)⟩,(((hbe2.setCell (by simp) _).setCell (by simp) _).setCell (by simp) _).setCell (by simp) _⟩
      }
    }
    {
    have hd:Hid (turnS sts ws fuel= (us,f,0)):=by show _=_;rw [hl.out,List.drop_eq_nil_of_le (by rw [HL.out];omega)];rfl
    obtain ⟨hf,hc⟩:=hfr.resolve_left (by omega);have HI:=hide hi;have u0:=zaa hz.out 0 _ rfl;have u1:=zaa hz.out 1 _ rfl;have u2:=zad hz.out 0;have u3:=zad hz.out 1;have z0: ¬(k:Int)< (L:Int):=by omega
    clear hi;go_wp2;refine bodyPost_ret (v:=.tuple #[.agg #[.slice a1 n c1,.int .i64 f],.int .i64 0]) (by simp [results,Tryz.results201,go_sem,u0,u1]) rfl ?_;rw [hd.out];exact⟨⟨a1,n,c1,rfl,(HI.out.other hf (by omega) 0 _).other hf (by omega) 1 _,HLen.out,hc,zal.mono hf (by omega)⟩,(hbe.setCell (by simp) _).setCell (by simp) _⟩
    }
end
section
open Go.RowKit
attribute [local go_sem ↓] Go.wp_at_zero Go.wp_at_succ
def zb6:Nat→List Int→List (List Int)×List Int
  |0,l=>([],l)
  |k+1,l=>if longS l=0 then([],l) else((l.drop 1).take (longS l)::(zb6 k (l.drop (1+longS l))).1,(zb6 k (l.drop (1+longS l))).2)
def za7 (l:List Int):List (List Int)×List Int:=zb6 l.length l
def secL (ws:List Int) (s:Nat):List Int:=(ws.drop (s * 32+1)).take 31
theorem zci (k:Nat) (l:List Int):zb6 (k+1) l=if longS l=0 then([],l) else((l.drop 1).take (longS l)::(zb6 k (l.drop (1+longS l))).1,(zb6 k (l.drop (1+longS l))).2):=rfl
theorem zoz (k:Nat) (l:List Int) (h:l.length≤k):zb6 (k+1) l=zb6 k l:=by
  induction k generalizing l with
  |zero=>
    have:l= []:=List.eq_nil_of_length_eq_zero (by omega);subst this;rfl
  |succ k ih=>
    rw [zci (k+1) l,zci k l]
    split
    { rfl }
    {
    rw [ih _ (by simp;omega)]
    }
theorem zev (k:Nat) (l:List Int) (h:l.length≤k):zb6 k l=za7 l:=by
  obtain ⟨d,rfl⟩: ∃d,k=l.length+d:=⟨k - l.length,by omega⟩
  induction d with
  |zero=>rfl
  |succ d ih=>rw [←Nat.add_assoc,zoz _ _ (by omega),ih (by omega)]
theorem zov (h:longS l=0):za7 l= ([],l):=by
  rw [←zev (l.length+1) l (by omega),zci,if_pos h]
theorem zpq (h:longS l≠0):za7 l= ((l.drop 1).take (longS l)::(za7 (l.drop (1+longS l))).1,(za7 (l.drop (1+longS l))).2):=by
  rw [←zev (l.length+1) l (by omega),zci,if_neg h,zev _ _ (by simp)]
theorem zq8 (k:Nat) (l:List Int): (zb6 k l).1.length≤l.length:=by
  induction k generalizing l with
  |zero=>simp [zb6]
  |succ k ih=>
    rw [zci]
    split
    { simp }
    {
    rename_i h
    have:=ih (l.drop (1+longS l));have h2:=zon (l:=l) (by omega)
    simp at this⊢
    omega
    }
theorem zkg (l:List Int): (za7 l).1.length≤l.length:=zq8 _ _
theorem zc6 {s:Nat} (h:s * 32+32≤ws.length): (secL ws s).length=31:=by simp [secL];omega
def zoh:Value→Nat
  | .slice _ n _=>n
  |_=>0
def ParseAns (w:World) (l:List Int) (e:Ending) (w' :World):Prop:=
  (∃v a m cc,e=.returned (.tuple #[v,.slice a m cc])∧zbp w w' v (za7 l).1∧zag w' a (za7 l).2∧(za7 l).2.length=m∧m≤31∧okL (za7 l).2=true)∧Below w.heap.size w w'
theorem zo9 (k:Nat) (w:World) (h:k≤4):
    (Instr.makeSlice 208 (.int .i64 0) (.int .i64 k)).run Tryz.prog w=.ok (.slice (some ⟨w.heap.size,0,none⟩) 0 k) (w.alloc (.cells (vals (List.replicate k 0)).toArray 3)):=by
  obtain ⟨i0,hi,hz0,hz1,hz2⟩:=info_parts zef;have:=run_make (P:=Tryz.prog) w 208 3 i0 (.int .i64 0) Tryz.underlying208 hi hz0 .i64 .i64 0 k (by omega) (by omega) (by rw [hz2];omega) (by omega);rw [hz1,Int.toNat_natCast,Nat.mul_one,zmh] at this;exact this
theorem zkz (a:Option Addr) (n c:Nat): ∀u∈ [Value.slice a n c],u.oneCell' =true:=by
  intro u hu;simp at hu;subst hu;rfl
theorem znk (k:Nat) (w w0:World) (hb:w0.heap.size≤w.heap.size) (hk:k≤4): (w.alloc (.cells (vals (List.replicate k 0)).toArray 3)).ownsRow w0.heap.size 3 1 (.slice (some ⟨w.heap.size,0,none⟩) 0 k) 0 []:=
  ⟨rfl,.inr ⟨w.heap.size,k,(vals (List.replicate k 0)).toArray,rfl,hb,heap_alloc_last _ _,Nat.zero_le _,by unfold maxLen;omega,by simp [vals],by simp⟩⟩
theorem zmb (a:Option Addr) (n c:Nat) (ws:List Int) (fuel:Int) (s:Nat) (w:World) (h:zag w a ws) (hn:ws.length=n) (hc:n≤c) (hm:n≤192) (hok:okL ws=true) (hs:s=0∨s=1) (h64:64≤n):
    Calls Tryz.prog 108 #[.agg #[.slice a n c,.int .i64 fuel],.int .i64 s] w (ParseAns w (secL ws s)):=by
  obtain ⟨ii,hii,iz0,iz1,iz2⟩:=info_parts zef;obtain ⟨irr,hir,rz0,rz1,rz2⟩:=info_parts zgb;have hw:Below w.heap.size w (w.alloc (.cells #[.slice a n c,.int .i64 fuel] 28)):=bA1;have i0:=h.below hw;have hl31: (secL ws s).length=31:=zc6 (by omega);have hokl:okL (secL ws s)=true:=zi6 _ (zfq _ hok);obtain ⟨b,off,rfl⟩:=h.nonempty (by omega);have il:zag (w.alloc (.cells #[.slice (some ⟨b,off,none⟩) n c,.int .i64 fuel] 28)) (some ⟨b,off+(s * 32+1),none⟩) (secL ws s):=(i0.drop _).take _;have il0:zag w (some ⟨b,off+(s * 32+1),none⟩) (secL ws s):=(h.drop _).take _;obtain ⟨l,hl⟩: ∃l,l=secL ws s:=⟨_,rfl⟩;rw [←hl] at il il0 hl31 hokl⊢;have HP:Hid (∀r,longS r=0→za7 r= ([],r)):=fun _=>zov
  have HP2:Hid (∀r,longS r≠0→za7 r= ((r.drop 1).take (longS r)::(za7 (r.drop (1+longS r))).1,(za7 (r.drop (1+longS r))).2)):=fun _=>zpq
  have HRS:Hid (∀(rs:List (List Int)) {q:List (List Int)} {p:List Int},za7 l= (rs++q,p)→rs.length≤1000):=fun rs q p h=>by
    have:=zkg l;rw [h,List.length_append,hl31] at this;omega
  clear h hn hl hok i0;have H31:=hide hl31;clear hl31;have hc64: (64:Int)≤(c:Int):=by omega
  rcases hs with rfl|rfl
  all_goals
    simp only [Nat.zero_mul,Nat.one_mul,Nat.zero_add,Nat.reduceAdd] at il il0;go_enter Tryz.func108,Tryz.ntmps108;go_wp2_with fail;refine(zjo _ 31 _ l _ il H31.out (by omega) hokl).mono ?_;rintro e w1 ⟨rfl,rfl⟩;go_wp2_with fail
    go_loopw [4,5,7] (fun v4 v5 v7 wr=>∃(rs:List (List Int)) (rest:List Int) (a:Option Addr) (m cc:Nat),v5=.slice a m cc∧v7=.int .i64 (longS rest)∧zbp w wr v4 rs∧zag w a rest∧Hid (rest.length=m)∧m≤31∧m≤cc∧cc≤c∧okL rest=true∧Hid (za7 l= (rs++(za7 rest).1,(za7 rest).2))) (fun _ v _ _=>zoh v)
    case atStart=>exact⟨[],l,_,31,_,rfl,rfl,zpg hw,il0,H31.out,by omega,by omega,by omega,hokl,by show _=_;simp⟩
    case round=>
      obtain ⟨rs,rest,a,m,cc,rfl,rfl,hmk,hi,hlen,hm31,hcc,hcc2,hokr,hp⟩:=hrel;obtain ⟨k,hk⟩: ∃k,k=longS rest:=⟨_,rfl⟩;rw [←hk]
      by_cases hk0:k=0
      {
      have hx:=HP.out rest (by omega);have hp' :Hid (za7 l= (rs,rest)):=by show _=_;rw [hp.out,hx];simp
      subst hk0;have HM:=hide hmk;have HI:=hide hi;have HO:=hide hokr;clear hmk hi hokr hx hp hk;go_wp2;go_ret2;refine⟨⟨_,_,m,cc,rfl, ?_, ?_, ?_,hm31, ?_⟩,HM.out.below⟩
      { rw [hp'.out];exact HM.out }
      { rw [hp'.out];exact HI.out.below HM.out.below }
      { rw [hp'.out];exact hlen.out }
      { rw [hp'.out];exact HO.out }
      }
      {
      have hkl:k<m:=by have:=zon (l:=rest) (by omega);rw [hlen.out] at this;omega
      have hk4:k≤4:=by have:=longS_le rest;omega
      have hmk1:=fun W=>zo9 k W hk4
      obtain ⟨b',off',rfl⟩:=hi.nonempty (by rw [hlen.out];omega);obtain ⟨r,hr⟩: ∃r,r= (rest.drop 1).take k:=⟨_,rfl⟩;have hrl:r.length=k:=by rw [hr];simp [hlen.out];omega
      have ir:zag wr (some ⟨b',off' +1,none⟩) r:=by rw [hr];exact((hi.drop 1).take k).below hmk.below
      have i1: (k:Int)< (m:Int):=by omega
      have i2: (1:Int)+(k:Int)≤(cc:Int):=by omega
      have i3: (1:Int)≤1+(k:Int):=by omega
      have i4: ¬cc=1:=by omega
      have i5: ¬k=0:=hk0;have i6: (0:Int)< (k:Int):=by omega
      have i7: (0:Int)≤(k:Int):=by omega
      have i8:IntKind.i64.wrap (1+(k:Int))=1+(k:Int):=by rw [IntKind.wrap_i64];omega
      have i9: (0:Int)≤1+(k:Int):=by omega
      have j1: (1+(k:Int)).toNat=1+k:=by omega
      have j2:1+k - 1=k:=by omega
      have j3: (1:Int)≤(cc:Int):=by omega
      have j4:1<cc:=by omega
      obtain ⟨vs,hvo,hvr⟩:=hmk.own;have HV:=hide hvr;have HM:=hide hmk;have HI:=hide hi;have HR:=hide hrl;have HK:=hide hk;have hsz:=hmk.below.size;have hrs31:rs.length≤1000:=HRS.out rs hp.out;have hrow0: (wr.alloc (.cells (vals (List.replicate k 0)).toArray 3)).ownsRow wr.heap.size 3 1 (.slice (some ⟨wr.heap.size,0,none⟩) 0 k) 0 []:=znk k wr wr (Nat.le_refl _) hk4;have hnews0: ∀j u,(vals r)[j]?=some u→(wr.alloc (.cells (vals (List.replicate k 0)).toArray 3)).drew.cell? ((⟨b',off' +1,none⟩:Addr).add j)=some u:=zl8 ((ir.alloc _).below (Below.refl _ _).drew);clear hmk hi hk0 hk hvr hrl;go_wp2_with fail
      go_region_held3 (fun _=>True) (trivial)
        ((first
          | (refine zf4 _ (by rfl) _ _ 208 26 (by rfl) wr.heap.size 3 3 ii _ 1 8 Tryz.underlying208 Tryz.underlying26 hii iz0 iz1 iz2 rfl (by omega) (.slice (some ⟨wr.heap.size,0,none⟩) 0 k) 0 [] (by rfl) hrow0.drew ⟨b',off' +1,none⟩ k (cc - 1) (vals r) (by rfl) (by rw [za3,HR.out,Nat.mul_one]) hnews0 (zbu r) (by omega) (by unfold maxLen;omega) (by omega) (by simp) (wr.heap.size+1) (by simp) ?_;intro g cap w1 hown1 hgrow1 hat1 hlt1;have hB1:Below wr.heap.size wr w1:=(((Below.refl _ wr).alloc (Nat.le_refl _) _).drew.grown hgrow1 (by simp) (fun k hk=>by simp [Value.ownBlock] at hk;omega));rw [Nat.zero_add] at hown1⊢;have q1:=zjq (ws:=r) hown1 HR.out;have hB2:Below wr.heap.size wr (w1.alloc (.cells #[.slice (some ⟨g,0,none⟩) k cap] 208)):=hB1.alloc hB1.size _)
          | (refine step_append_lies _ (by rfl) _ _ 75 (by rfl) w.heap.size 208 irr _ 1 24 Tryz.underlying75 hir rz0 rz1 rz2 rfl (by omega) u4 rs.length vs (by rfl) (zba hvo hB2) ⟨w1.heap.size,0,none⟩ 1 1 [.slice (some ⟨g,0,none⟩) k cap] (by rfl) rfl (zg5 _ _ _) (zkz _ _ _) (by omega) (by unfold maxLen;omega) (by omega) (by have:=hB2.size;omega) (w1.heap.size+1) (by simp) ?_;intro g2 cap2 w2 hown2 hgrow2 hat2 hlt2)))
      have hM2:zbp w w2 (.slice (some ⟨g2,0,none⟩) (rs.length+1) cap2) (rs++ [r]):=
        zbp.step HM.out.below hvo HV.out hB2 (zos q1.1 (bA1)) (by rw [HR.out];exact q1.2.2.1) q1.2.2.2 (by rw [HR.out];exact hown2) hgrow2
      have HM2:=hide hM2;clear hM2 hown1 hown2 hgrow1 hgrow2 hB1 hB2 q1 hvo hrow0 hnews0 hmk1 HV;have hm2:m - (1+k)≤31:=by omega
      have HD:Hid ((rest.drop (1+k)).length=m - (1+k)):=by show _=_;rw [List.length_drop,hlen.out]
      have HO2:Hid (okL (rest.drop (1+k))=true):=zfq _ hokr;have HP3:Hid (za7 l= ((rs++ [r])++(za7 (rest.drop (1+k))).1,(za7 (rest.drop (1+k))).2)):=by
        show _=_
        rw [hp.out,HP2.out rest (by rw [←HK.out];exact i5),←HK.out,hr]
        simp
      have HI1:Hid (zag w (some ⟨b',off' +(1+k),none⟩) (rest.drop (1+k))):=HI.out.drop (1+k);have HI2:Hid (1+k=cc→zag w (some ⟨b',off',none⟩) (rest.drop (1+k))):=fun e=>.inl (List.eq_nil_of_length_eq_zero (by rw [HD.out];omega))
      clear hr hokr hp ir;go_wp2_with fail
      all_goals
        obtain ⟨rest',hrest'⟩: ∃q,q=rest.drop (1+k):=⟨_,rfl⟩;rw [←hrest'] at HD HO2 HP3 HI1 HI2;clear hrest';refine(zjo _ (m - (1+k)) _ rest' _ (by first|exact HI1.out.below HM2.out.below|exact(HI2.out (by omega)).below HM2.out.below) HD.out (by omega) HO2.out).mono ?_;rintro e w3 ⟨rfl,rfl⟩;go_wp2
        go_roundw
        case rel=>exact⟨rs++ [r],rest',_,m - (1+k),_,rfl,rfl,HM2.out,by first|exact HI1.out|exact HI2.out (by omega),HD.out,hm2,by omega,by omega,HO2.out,HP3.out⟩
        case measure=>simp [zoh];omega
      }
end
section
open Go.RowKit
attribute [local go_sem ↓] Go.wp_at_zero Go.wp_at_succ
theorem ze2 {s:Nat} (h:w.cell? ⟨b,0,none⟩=some (.int .i64 s)) (hs:s≤100):zdg w (.func (.func 249) #[] #[.pointer (some ⟨b,0,none⟩)]) (.era s):=⟨b,rfl,h,hs⟩
theorem zb4 {b1 b2 p n c:Nat} {words:List Int} (h1:w.cell? ⟨b1,0,none⟩=some (.int .i64 p)) (h2:w.cell? ⟨b2,0,none⟩=some (.slice a n c)) (h3:zag w a words) (h4:words.length=n) (h5:n≤100) (h6:p≤1000):
    zdg w (.func (.func 251) #[] #[.pointer (some ⟨b1,0,none⟩),.pointer (some ⟨b2,0,none⟩)]) (.prg p words):=⟨b1,b2,a,n,c,rfl,h1,h2,h3,h4,h5,h6⟩
theorem znc {v0 v1:Value} {s0 s1:Stp} (h0:w.cell? ⟨b,0,none⟩=some v0) (h1:w.cell? ⟨b,1,none⟩=some v1) (k0:zdg w v0 s0) (k1:zdg w v1 s1):zd0 w (some ⟨b,0,none⟩) [s0,s1]:=by
  refine⟨b,rfl,fun i st hi=> ?_⟩
  match i,hi with
  |0,hi=>simp at hi;subst hi;exact⟨v0,h0,k0⟩
  |1,hi=>simp at hi;subst hi;exact⟨v1,h1,k1⟩
theorem zji {v0 v1 v2:Value} {s0 s1 s2:Stp} (h0:w.cell? ⟨b,0,none⟩=some v0) (h1:w.cell? ⟨b,1,none⟩=some v1) (h2:w.cell? ⟨b,2,none⟩=some v2) (k0:zdg w v0 s0) (k1:zdg w v1 s1) (k2:zdg w v2 s2):zd0 w (some ⟨b,0,none⟩) [s0,s1,s2]:=by
  refine⟨b,rfl,fun i st hi=> ?_⟩
  match i,hi with
  |0,hi=>simp at hi;subst hi;exact⟨v0,h0,k0⟩
  |1,hi=>simp at hi;subst hi;exact⟨v1,h1,k1⟩
  |2,hi=>simp at hi;subst hi;exact⟨v2,h2,k2⟩
theorem zd7 {x:Int} (h:w.cell? ⟨b,0,none⟩=some (.int .i64 x)):zag w (some ⟨b,0,none⟩) [x]:=
  .inr ⟨b,0,rfl,fun i hi=>by
    have:i=0:=by simp at hi;omega
    subst this;exact h⟩
theorem zg2 (s:Int) (w:World):Calls Tryz.prog 202 #[.int .i64 s] w fun e w' =>e=.returned (.func (.func 249) #[] #[.pointer (some ⟨w.heap.size,0,none⟩)])∧w' =w.alloc (.cells #[.int .i64 s] 3):=by
  go_enter Tryz.func202,Tryz.ntmps202;go_wp2;go_ret;exact⟨rfl,rfl⟩
theorem zcl (p:Int) (v:Value) (w:World) (hv: ∃a n c,v=.slice a n c):Calls Tryz.prog 203 #[.int .i64 p,v] w fun e w' =>e=.returned (.func (.func 251) #[] #[.pointer (some ⟨w.heap.size,0,none⟩),.pointer (some ⟨w.heap.size+1,0,none⟩)])∧w' = (w.alloc (.cells #[.int .i64 p] 3)).alloc (.cells #[v] 26):=by
  obtain ⟨a,n,c,rfl⟩:=hv;go_enter Tryz.func203,Tryz.ntmps203;go_wp2;go_ret;exact⟨rfl,rfl⟩
theorem zas {cs:Array Value} {t:TypeId} {i:Nat} (hb:b=w.heap.size) (hv:cs[i]?=some v): (w.alloc (.cells cs t)).cell? ⟨b,i,none⟩=some v:=by
  subst hb;exact zaa (heap_alloc_last _ _) i _ hv
theorem zaq {o:Obj} {p:Addr} (h:w.cell? p=some v): (w.alloc o).cell? p=some v:=by
  rw [Below.cell ((Below.refl _ w).alloc (Nat.le_refl _) o) (zah h)];exact h
theorem zgf {W W' :World} {v0 v1:Value} (hb:Below W.heap.size W W') (lt:b<W.heap.size) (x0:W.cell? ⟨b,0,none⟩=some v0) (x1:W.cell? ⟨b,1,none⟩=some v1):W'.cell? ⟨b,0,none⟩=some v0∧W'.cell? ⟨b,1,none⟩=some v1:=
  ⟨(hb.cell (p:=⟨b,0,none⟩) lt).trans x0,(hb.cell (p:=⟨b,1,none⟩) lt).trans x1⟩
def fmtS (ws:List Int) (fuel:Int):List Int×Int×Int:=if secS ws fuel≠0 then([],0,secS ws fuel) else turnS [.era 1,.era 0,.prg 0 [1]] ws fuel
theorem zju (a:Option Addr) (n c:Nat) (ws:List Int) (fuel:Int) (w:World) (h:zag w a ws) (hn:ws.length=n) (hm:n≤maxLen):
    Calls Tryz.prog 137 #[.agg #[.slice a n c,.int .i64 fuel]] w (zbf w (fmtS ws fuel)):=by
  have HC:=hide (fun W (h:zag W a ws)=>zfc a n c ws fuel W h hn hm);have HT:=hide (fun W al cl (h:zag W a ws) (hs:zd0 W al [.era 1,.era 0,.prg 0 [1]])=>zkr a n c ws fuel al 3 cl [.era 1,.era 0,.prg 0 [1]] W h hn hm hs rfl (by decide) (by decide));have b0: ((w.alloc (.cells #[.slice a n c,.int .i64 fuel] 28)).alloc (.cells #[.slice none 0 0,.int .i64 0] 28)).heap[w.heap.size]?=some (.cells #[.slice a n c,.int .i64 fuel] 28 (0,0)):=
    zai (heap_alloc_last _ _) _
  have b2: ((w.alloc (.cells #[.slice a n c,.int .i64 fuel] 28)).alloc (.cells #[.slice none 0 0,.int .i64 0] 28)).heap[w.heap.size+1]?=some (.cells #[.slice none 0 0,.int .i64 0] 28 (0,0)):=
    by simpa using heap_alloc_last (w.alloc _) _
  have hw:Below w.heap.size w ((w.alloc (.cells #[.slice a n c,.int .i64 fuel] 28)).alloc (.cells #[.slice none 0 0,.int .i64 0] 28)):=
    bA2
  have i0:=h.below hw;have B0:=hide b0;have B2:=hide b2;clear b0 b2 hn;go_enter Tryz.func137,Tryz.ntmps137;go_wp2_with fail;generalize (w.alloc (.cells #[.slice a n c,.int .i64 fuel] 28)).alloc (.cells #[.slice none 0 0,.int .i64 0] 28)=W at *;refine(zae HC _ i0).mono ?_;rintro e w1 ⟨rfl,hb1⟩;replace B0:=hide (zab B0.out hb1);replace B2:=hide (zab B2.out hb1);replace i0:=i0.below hb1;replace hw:=bT hw hb1;clear hb1;have x0:=zaa B0.out 0 _ rfl;have x1:=zaa B0.out 1 _ rfl;have y0:=zaa B2.out 0 _ rfl;have y1:=zaa B2.out 1 _ rfl;have f0:=zad B2.out 0;have f1:=zad B2.out 1;have lt0:=zak B0.out;have lt1:=zak B2.out
  by_cases e1:secS ws fuel=0
  rotate_left
  {
  have e1' : (secS ws fuel !=0)=true:=by simpa using e1
  have hr:Hid (fmtS ws fuel= ([],0,secS ws fuel)):=by show _=_;unfold fmtS;rw [if_pos e1]
  go_wp2;refine bodyPost_ret (v:=.tuple #[.agg #[.slice none 0 0,.int .i64 0],.int .i64 (secS ws fuel)]) (by simp [results,Tryz.results137,go_sem,y0,y1]) rfl ?_;exact zaz hr.out ((hw.setCell (by simp) _).setCell (by simp) _)
  }
  have e1' : (secS ws fuel !=0)=false:=by simpa using e1
  have hr:Hid (fmtS ws fuel=turnS [.era 1,.era 0,.prg 0 [1]] ws fuel):=by show _=_;unfold fmtS;rw [if_neg (by simpa using e1)]
  clear e1;have nn:=World.new_ne w1 ⟨w.heap.size,0,none⟩ x0;go_wp2_with fail
  go_region_held3 (fun w' =>w'.cell? ⟨w.heap.size,0,none⟩=some (.slice a n c)∧w'.cell? ⟨w.heap.size,1,none⟩=some (.int .i64 fuel)) (first|exact⟨by assumption,by assumption⟩| (refine zgf ?_ lt0 x0 x1;(repeat(first|exact Below.refl _ _|refine Below.drew ?_|refine Below.alloc ?_ (by simp<;>omega) _));done)|go_keep)
    ((first
      | (go_at_call 202;refine(zg2 _ _).mono ?_;rintro e w2 ⟨rfl,rfl⟩)
      | (go_at_call 203;refine(zcl _ _ _ ⟨_,_,_,rfl⟩).mono ?_;rintro e w2 ⟨rfl,rfl⟩)
      | (go_at_call 201;refine(zae HT _ _ _ (i0.below (by repeat(first|exact Below.refl _ _|refine Below.drew ?_|refine Below.alloc ?_ (by simp<;>omega) _))) (zji (by repeat(first| (refine zas ?_ rfl;simp;done)|refine zaq ?_)) (by repeat(first| (refine zas ?_ rfl;simp;done)|refine zaq ?_)) (by repeat(first| (refine zas ?_ rfl;simp;done)|refine zaq ?_)) (ze2 (by repeat(first| (refine zas ?_ rfl;simp;done)|refine zaq ?_)) (by omega)) (ze2 (by repeat(first| (refine zas ?_ rfl;simp;done)|refine zaq ?_)) (by omega)) (zb4 (n:=1) (by repeat(first| (refine zas ?_ rfl;simp;done)|refine zaq ?_)) (by repeat(first| (refine zas ?_ rfl;simp;done)|refine zaq ?_)) (zd7 (by repeat(first| (refine zas ?_ rfl;simp;done)|refine zaq ?_))) rfl (by omega) (by omega)))).mono ?_;rintro e w6 ⟨⟨a6,n6,c6,rfl,hi6,hn6,hc6,hf6⟩,hb6⟩;have hb7:Below w1.heap.size w1 w6:=(Below.trans (by repeat(first|exact Below.refl _ _|refine Below.drew ?_|refine Below.alloc ?_ (by simp<;>omega) _)) (hb6.mono (by simp;omega)));have z0:w6.cell? ⟨w.heap.size,0,none⟩=some (.slice a n c):=(by rw [hb7.cell lt0];exact x0);have z1:w6.cell? ⟨w.heap.size,1,none⟩=some (.int .i64 fuel):=(by rw [hb7.cell lt0];exact x1);have q0:=zaa (zab B2.out hb7) 0 _ rfl;have q1:=zaa (zab B2.out hb7) 1 _ rfl;have q2:=zad (zab B2.out hb7) 0;have q3:=zad (zab B2.out hb7) 1;have hf7:zal w1.heap.size a6:=zal.mono hf6 (by simp;omega))))
  all_goals
    go_wp2;refine bodyPost_ret (v:=.tuple #[.agg #[.slice a6 n6 c6,.int .i64 (turnS [.era 1,.era 0,.prg 0 [1]] ws fuel).2.1],.int .i64 (turnS [.era 1,.era 0,.prg 0 [1]] ws fuel).2.2]) (by simp [results,Tryz.results137,go_sem,q0,q1]) rfl ?_;rw [hr.out];have hw7:=bT hw hb7;exact⟨⟨a6,n6,c6,rfl,(hi6.other hf7 lt1 0 _).other hf7 lt1 1 _,hn6,hc6,zal.mono hf7 hw.size⟩,(hw7.setCell (by simp) _).setCell (by simp) _⟩
end
end Go.Proofs.YthmekfcgdfckaaaGreatDoor
