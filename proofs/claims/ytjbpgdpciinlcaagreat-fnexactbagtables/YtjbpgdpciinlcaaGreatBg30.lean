import Derived.Test.YtjbpgdpciinlcaaGreatBg18
set_option maxHeartbeats 40000000
set_option maxRecDepth 1000000
namespace Go.Proofs.YtjbpgdpciinlcaaGreat
open Go.RowKit
variable {rs:List (List Int)}{r:List Int}{D:List Int->Prop}{xs:List Value}{B B' K i j node root:Nat}{o:Obj}{e:TypeId}{v:Value}{W W' W0 w w3:World}
def ApW(u v:Value):Prop:=∀g,u.ownBlock=some g->v.ownBlock≠some g
theorem qT{n s:Nat}(h:w.ownsRow B e s v n xs):∃a cap,v=.slice a n cap:=by
 rcases h.2 with ⟨rfl,h2⟩|⟨g,cap,cur,rfl,-⟩
 ·exact⟨none,0,by rw[h2]⟩
 ·exact⟨_,cap,rfl⟩
structure TW(W:World)(B:Nat)(v0 v1 v2:Value)(us:List Value)(vs:List Int)(rows:List (List Int))(ws:List Int):Prop where
 o0:W.ownsRow B 3 1 v0 vs.length (vs.map (Value.int .i64))
 rq:RQ W B v1 us rows
 o2:W.ownsRow B 3 1 v2 ws.length (ws.map (Value.int .i64))
 a02:ApW v0 v2
 a0:∀i,i < rows.length->ApW (us.getD i undef) v0
 a2:∀i,i < rows.length->ApW (us.getD i undef) v2
theorem TW.below{v0 v1 v2:Value}{us:List Value}{vs ws:List Int}{rows:List (List Int)}(h:TW W B v0 v1 v2 us vs rows ws)(hb:Bl W W'):TW W' B v0 v1 v2 us vs rows ws:=
 ⟨qB h.o0 hb,h.rq.below hb,qB h.o2 hb,h.a02,h.a0,h.a2⟩
theorem TW.base{v0 v1 v2:Value}{us:List Value}{vs ws:List Int}{rows:List (List Int)}(h:TW W B v0 v1 v2 us vs rows ws)(hB:B'<=B):TW W B' v0 v1 v2 us vs rows ws:=
 ⟨qF h.o0 hB,h.rq.base hB,qF h.o2 hB,h.a02,h.a0,h.a2⟩
structure TbR where
 v0:Value
 v1:Value
 v2:Value
 us:List Value
 vs:List Int
 rows:List (List Int)
 ws:List Int
def qX:TbR:=⟨undef,undef,undef,[],[],[],[]⟩
def tcs(t:TbR):List Value:=[t.v0,t.v1,t.v2]
def bls(t:TbR):List Value:=t.v0::t.v2::t.us
def TWr(W:World)(B:Nat)(t:TbR):Prop:=TW W B t.v0 t.v1 t.v2 t.us t.vs t.rows t.ws
theorem TWr.lt{t:TbR}(h:TWr W B t){x:Value}(hx:x∈bls t){g:Nat}(hg:x.ownBlock=some g):B<=g/\g < W.heap.size:=by
 rcases List.mem_cons.1 hx with rfl|hx
 ·exact h.o0.lt g hg
 ·rcases List.mem_cons.1 hx with rfl|hx
  ·exact h.o2.lt g hg
  ·obtain⟨i,hi,rfl⟩:=gO hx;have hi':i < t.rows.length:=by rw[<-h.rq.len];exact hi
   have:=(h.rq.each i hi').lt g (by rw[gD,gE hi];exact hg);exact this
structure TBs(W:World)(B:Nat)(v:Value)(tl:List TbR):Prop where
 own:W.ownsRow B 53 3 v tl.length (tl.flatMap tcs)
 each:∀t∈tl,TWr W B t
 ap:tl.Pairwise fun s t=>∀x∈bls s,∀y∈bls t,ApW x y
theorem TBs.below{tl:List TbR}(h:TBs W B v tl)(hb:Bl W W'):TBs W' B v tl:=
 ⟨qB h.own hb,fun t ht=>TW.below (h.each t ht) hb,h.ap⟩
theorem TBs.base{tl:List TbR}(h:TBs W B v tl)(hB:B'<=B):TBs W B' v tl:=
 ⟨qF h.own hB,fun t ht=>TW.base (h.each t ht) hB,h.ap⟩
theorem TW.grownT{n:Nat}{t:TbR}(h:TWr W B t)(ho:W.ownsRow B' 53 3 v n xs)(hg:(W.alloc o).grownBy w3 v.ownBlock):TWr w3 B t:=by
 have hint:∀{x:Value} {k B':Nat} {xs:List Value},W.ownsRow B' 3 1 x k xs->w3.ownsRow B' 3 1 x k xs:=fun hx=>
  qC hx fun g hgx=>zi hg (hx.lt g hgx).2 (own_ne ho (qY hx hgx) (by decide))
 have hsl:∀{x:Value} {k B':Nat} {xs:List Value},W.ownsRow B' 24 1 x k xs->w3.ownsRow B' 24 1 x k xs:=fun hx=>
  qC hx fun g hgx=>zi hg (hx.lt g hgx).2 (own_ne ho (qY hx hgx) (by decide))
 exact⟨hint h.o0,⟨hsl h.rq.own,h.rq.len,fun i hi=>hint (h.rq.each i hi),h.rq.ap⟩,hint h.o2,h.a02,h.a0,h.a2⟩
theorem TBs.row{tl:List TbR}(h:TBs W0 B v tl)(hB:B<=W0.heap.size):∀(W:World) (t:TbR) (o:Obj) (w3:World) (v':Value),Bl W0 W->TWr W W0.heap.size t->(W.alloc o).grownBy w3 v.ownBlock->w3.ownsRow B 53 3 v' (tl.length+1) (tl.flatMap tcs++[t.v0,t.v1,t.v2])->TBs w3 B v' (tl++[t]):=by
 intro W t o w3 v' hb ht hg hown;have ho:=qB h.own hb;refine⟨?_,fun s hs=>?_,?_⟩
 ·rw[lA,List.flatMap_append];exact hown
 ·rcases List.mem_append.1 hs with hs|hs
  ·exact TW.grownT (TW.below (h.each s hs) hb) ho hg
  ·rw[List.mem_singleton.1 hs];exact TW.base (TW.grownT ht ho hg) hB
 ·refine List.pairwise_append.2 ⟨h.ap,List.pairwise_singleton _ _,fun s hs t' ht' x hx y hy g h1 h2=>?_⟩;rw[List.mem_singleton.1 ht']at hy;have h3:=((h.each s hs).lt hx h1).2;have h4:=(ht.lt hy h2).1;omega
theorem vk(w:World)(x y z:Value)(t:TypeId):∀j u,[x,y,z][j]?=some u->(w.alloc (.cells #[x,y,z] t)).cell? ((⟨w.heap.size,0,none⟩:Addr).add j)=some u:=by
 intro j u hj;have e:(⟨w.heap.size,0,none⟩:Addr).add j=⟨w.heap.size,j,none⟩:=by unfold Addr.add;by_cases h0:j=0 <;> simp[h0]
 rw[e,cA _ _ _ _ rfl];match j,hj with
 |0,hj=>simpa using hj
 |1,hj=>simpa using hj
 |2,hj=>simpa using hj
 |j+3,hj=>simp at hj
theorem Tryz.infoTb:(Tryz.prog.info? 53).map (fun i=>(i.zero,i.size,i.bytes))=some (some (.agg #[.slice none 0 0,.slice none 0 0,.slice none 0 0]),3,72):=by kernel_rfl
structure TvOk(t:TbV):Prop where
 vs:t.vs.length<=6
 n:t.rows.length<=10000
 ws:t.ws.length<=10000
 len:∀r∈t.rows,r.length<=6
def tvB(t:TbR):TbV:=⟨t.vs,t.rows,t.ws⟩
theorem TBs.its{tl:List TbR}(h:TBs W B v tl):ITs W v (tl.map tvB):=by
 obtain⟨a,cap,e,hc⟩:=qAW tcs (fun _=>rfl) qX h.own;refine⟨a,cap,by rw[lM];exact e,?_⟩;rcases hc with h0|⟨g,ea,-,hc⟩
 ·exact Or.inl (by rw[lM];exact h0)
 ·refine Or.inr ⟨g,0,ea,fun j hj=>?_⟩;rw[lM]at hj;have ht:TWr W B (tl.getD j qX):=h.each _ (by rw[gD,gE hj];exact gM _)
  have eg:(tl.map tvB).getD j qA=tvB (tl.getD j qX):=by
   rw[gD,gD,bJ,gE hj];rfl
  rw[eg,Nat.zero_add];exact⟨_,_,_,hc j 0 hj (by omega),hc j 1 hj (by omega),hc j 2 hj (by omega),qW ht.o0,ht.rq.rs.iss (bI _ _),qW ht.o2⟩
theorem TvOk.s{t:TbV}(h:TvOk t):TvS t:=⟨by have:=h.vs;omega,⟨by have:=h.n;omega,fun i=>by
 rw[gD];cases e:t.rows[i]? with
 |none=>exact nZ _
 |some r=>have:=h.len r (List.mem_of_getElem? e);show r.length<=_;omega⟩,by have:=h.ws;omega⟩
theorem Ja(w:World)(v u:Value)(ds:List TbV)(h:ITs w v ds)(h':ITs w u ds)(hl1:ds.length<=1048576)(hr:∀j,j < ds.length->TvOk (ds.getD j qA)):
 Cl 10 #[v,u] w fun e w'=>e=.returned (.bool true)/\Bl w w':=kE w v u ds h h' hl1 fun j hj=>(hr j hj).s
open Meet
theorem Tryz.infoTrieP:(Tryz.prog.info? 137).map (fun i=>(i.zero,i.size,i.bytes))=some (some (.pointer none),1,8):=by kernel_rfl
theorem Z9{n s:Nat}(h:w.ownsRow B e s v n xs):∃a cap,v=.slice a n cap:=by
 rcases h.2 with ⟨rfl,hn⟩|⟨g,cap,cur,rfl,_⟩
 ·exact⟨none,0,by rw[hn]⟩
 ·exact⟨_,cap,rfl⟩
def TS(W0 W:World)(rs:List (List Int))(K root:Nat):Prop:=∃D N f g0 g1,TM rs D N/\TR W W0.heap.size D N N f g0 g1/\f []=root/\(∀p,D p->(N p).length<=K)/\Bl W0 W
def LST(W0 W:World)(rs:List (List Int))(r:List Int)(i K root node:Nat):Prop:=∃D N f g0 g1,TM (rs++[r.take i]) D N/\TR W W0.heap.size D N N f g0 g1/\f []=root/\f (r.take i)=node/\(∀p,D p->(N p).length<=K+1/\(i<=p.length->(N p).length<=K))/\Bl W0 W
theorem LST.start(r:List Int)(h:TS W0 W rs K root):LST W0 W rs r 0 K root root:=by
 obtain⟨D,N,f,g0,g1,hM,hT,hr,hk,hb⟩:=h;exact⟨D,N,f,g0,g1,hM.begin,hT,hr,hr,fun p hp=>⟨by have:=hk p hp;omega,fun _=>hk p hp⟩,hb⟩
theorem LST.done(h:LST W0 W rs r r.length K root node):TS W0 W (rs++[r]) (K+1) root:=by
 obtain⟨D,N,f,g0,g1,hM,hT,hr,-,hk,hb⟩:=h;exact⟨D,N,f,g0,g1,hM.done,hT,hr,fun p hp=>(hk p hp).1,hb⟩
theorem LST.hit(h:LST W0 W rs r i K root node)(hi:i < r.length)(hs:∀s∈rs,qD s r < 0):
 (∃m ga ca gb cb nx,W.cell? ⟨node,0,none⟩=some (.slice (some ⟨ga,0,none⟩) (m+1) ca)/\W.cell? ⟨node,1,none⟩=some (.slice (some ⟨gb,0,none⟩) (m+1) cb)/\W.cell? ⟨ga,m,none⟩=some (.int .i64 (r.getD i 0))/\W.cell? ⟨gb,m,none⟩=some (.pointer (some ⟨nx,0,none⟩))/\m+1<=K/\LST W0 W rs r (i+1) K root nx)
 ∨(∃D N f g0 g1,r.getD i 0∉N (r.take i)/\TM (rs++[r.take i]) D N/\TR W W0.heap.size D N N f g0 g1/\f []=root/\f (r.take i)=node/\(∀p,D p->(N p).length<=K+1/\(i<=p.length->(N p).length<=K))/\Bl W0 W):=by
 obtain⟨D,N,f,g0,g1,hM,hT,hr,hnd,hk,hb⟩:=h;have hh:=hM.here;by_cases hx:r.getD i 0∈N (r.take i)
 ·refine Or.inl ?_;obtain⟨h0,h1⟩:=qDl (hM.asc _ hh) hx (hM.le hi hs);obtain⟨m,hm⟩:∃m,(N (r.take i)).length=m+1:=⟨(N (r.take i)).length - 1,by omega⟩;rw[hm,Nat.add_sub_cancel]at h1
  have hg:(N (r.take i))[m]?=some (r.getD i 0):=by
   rw[gD,gE (by omega),Option.getD_some]at h1;rw[gE (by omega),h1]
  obtain⟨ga,ca,ea,ca'⟩:=xw (hT.o0 _ hh) (j:=m) (by omega);obtain⟨gb,cb,eb,cb'⟩:=xw (hT.o1 _ hh) (j:=m) (by omega);rw[bJ,hg]at ca' cb';have hkm:=(hk _ hh).2 (by rw[bQ];omega);refine⟨m,ga,ca,gb,cb,f (r.take i++[r.getD i 0]),?_,?_,ca',cb',by omega,D,N,f,g0,g1,hM.hit hi hx,hT,hr,by rw[qm hi],fun p hp=>⟨(hk p hp).1,fun hl=>(hk p hp).2 (by omega)⟩,hb⟩
  ·rw[<-hnd,hT.c0 hh,ea,hm]
  ·rw[<-hnd,hT.c1 hh,eb,hm]
 ·exact Or.inr ⟨D,N,f,g0,g1,hx,hM,hT,hr,hnd,hk,hb⟩
theorem LST.miss{W1:World}{N:List Int->List Int}{f:List Int->Nat}{g0 g1:List Int->Value}{v':Value}(hi:i < r.length)(hs:∀s∈rs,qD s r < 0)(hx:r.getD i 0∉N (r.take i))(hM:TM (rs++[r.take i]) D N)
 (hT:TR W1 W0.heap.size D (fun q=>if q=r.take i then N (r.take i)++[r.getD i 0] else N q) N f g0 g1) (hr:f []=root) (hk:∀p,D p->(N p).length<=K+1/\(i<=p.length->(N p).length<=K)) (hb:Bl W0 W1)
 (hown:w3.ownsRow W0.heap.size 137 1 v' ((N (r.take i)).length+1) (((N (r.take i)).map fun x=>.pointer (some ⟨f (r.take i++[x]),0,none⟩))++[.pointer (some ⟨W1.heap.size,0,none⟩)]))
 (hg:((W1.alloc (.cells #[.slice none 0 0,.slice none 0 0] 200)).alloc o).grownBy w3 (g1 (r.take i)).ownBlock) (hat:∀g,v'.ownBlock=some g->(g1 (r.take i)).ownBlock=some g∨W1.heap.size<=g):
 LST W0 (w3.setCell ⟨f (r.take i),1,none⟩ v') rs r (i+1) K root W1.heap.size:=by
 have hh:=hM.here;have hno:¬D (r.take i++[r.getD i 0]):=fun hd=>hx ((hM.mem _ hh _).2 hd);have hs1:=hb.size
 have hTR:=hT.belw hh hno hx hb.size (N0':=uT N (r.take i) (r.getD i 0)) (fun q hq=>by
  unfold uT;by_cases e:q=r.take i
  ·rw[if_pos e,if_pos e]
  ·rw[if_neg e,if_neg e,if_neg (fun e2=>hno (by rw[<-e2];exact hq))]) (by unfold uT;rw[if_neg (QQ _ _),if_pos rfl]) hown hg hat
 refine⟨_,_,_,_,_,hM.miss hi hs hx,hTR,?_,?_,fun p hp=>?_,?_⟩
 ·show(if _ then _ else _)=_;rw[if_neg (by simp)];exact hr
 ·show(if _ then _ else _)=_;rw[if_pos (qm hi)]
 ·have hlt:(r.take i).length=i:=by rw[bQ];omega
  unfold uT;by_cases e:p=r.take i
  ·have:=(hk _ hh).2 (by omega);rw[if_pos e,lA,lS];refine⟨by omega,fun hl=>?_⟩;rw[e,hlt]at hl;omega
  ·rw[if_neg e];by_cases e2:p=r.take i++[r.getD i 0]
   ·rw[if_pos e2];exact⟨nZ _,fun _=>nZ _⟩
   ·rw[if_neg e2];have hd:=hp.resolve_right e2;exact⟨(hk p hd).1,fun hl=>(hk p hd).2 (by omega)⟩
 ·exact(((hb.alloc hs1 _).alloc (by simp;omega) _).grown hg (by simp;omega) (fun g hg'=>((hT.o1 _ hh).lt g hg').1)).setCell (hT.low _ hh) _
theorem XA(w:World)(o:Obj)(v:Value)(t:TypeId):∀j u,[v][j]?=some u->((w.alloc o).alloc (.cells #[v] t)).cell? ((⟨w.heap.size+1,0,none⟩:Addr).add j)=some u:=by
 have:=qH (w.alloc o) v t;rw[World.size_alloc]at this;exact this
theorem YM{b:Nat}{cs:Array Value}{t:TypeId}(h:W.heap[b]?=some (.cells cs t (0,0))):W.frozen? ⟨b,j,none⟩=false:=by unfold World.frozen?;rw[h];simp
theorem LST.half{N:List Int->List Int}{f:List Int->Nat}{g0 g1:List Int->Value}{g3 cp3 a1n k1:Nat}{a1:Option Addr}(hi:i < r.length)(hs:∀s∈rs,qD s r < 0)(hx:r.getD i 0∉N (r.take i))(hM:TM (rs++[r.take i]) D N)
 (hT:TR W W0.heap.size D N N f g0 g1) (hr:f []=root) (hk:∀p,D p->(N p).length<=K+1/\(i<=p.length->(N p).length<=K)) (hb:Bl W0 W) (h1:g1 (r.take i)=.slice a1 a1n k1)
 (hown:w3.ownsRow W0.heap.size 3 1 (.slice (some ⟨g3,0,none⟩) ((N (r.take i)).length+1) cp3) ((N (r.take i)).length+1) ((N (r.take i)).map (Value.int .i64)++[.int .i64 (r.getD i 0)])) (hg:(W.alloc o).grownBy w3 (g0 (r.take i)).ownBlock) (hat:(g0 (r.take i)).ownBlock=some g3∨g3=(W.alloc o).heap.size):
 ∃W2 xs,W2=w3.setCell ⟨f (r.take i),0,none⟩ (.slice (some ⟨g3,0,none⟩) ((N (r.take i)).length+1) cp3)/\W2.cell? ⟨f (r.take i),1,none⟩=some (.slice a1 a1n k1)/\W2.ownsRow W0.heap.size 137 1 (.slice a1 a1n k1) (N (r.take i)).length xs/\W0.heap.size<=W2.heap.size
  /\∀w4 o' g4 cp4,w4.ownsRow W0.heap.size 137 1 (.slice (some ⟨g4,0,none⟩) ((N (r.take i)).length+1) cp4) ((N (r.take i)).length+1) (xs++[.pointer (some ⟨W2.heap.size,0,none⟩)])->((W2.alloc (.cells #[.slice none 0 0,.slice none 0 0] 200)).alloc o').grownBy w4 (Value.slice a1 a1n k1).ownBlock->((Value.slice a1 a1n k1).ownBlock=some g4∨g4=((W2.alloc (.cells #[.slice none 0 0,.slice none 0 0] 200)).alloc o').heap.size)->
   (w4.frozen? ⟨f (r.take i),1,none⟩=false/\w4.cell? ⟨f (r.take i),1,none⟩=some (.slice a1 a1n k1))/\(w4.setCell ⟨f (r.take i),1,none⟩ (.slice (some ⟨g4,0,none⟩) ((N (r.take i)).length+1) cp4)).cell? ⟨f (r.take i),1,none⟩=some (.slice (some ⟨g4,0,none⟩) ((N (r.take i)).length+1) cp4)/\(w4.setCell ⟨f (r.take i),1,none⟩ (.slice (some ⟨g4,0,none⟩) ((N (r.take i)).length+1) cp4)).cell? ⟨g4,(N (r.take i)).length,none⟩=some (.pointer (some ⟨W2.heap.size,0,none⟩))
   /\LST W0 (w4.setCell ⟨f (r.take i),1,none⟩ (.slice (some ⟨g4,0,none⟩) ((N (r.take i)).length+1) cp4)) rs r (i+1) K root W2.heap.size:=by
 have hh:=hM.here
 have hT2:=hT.vals hh hown hg (fun g hg'=>by
  simp only[Value.ownBlock,Option.some.injEq]at hg';subst hg';rcases hat with h2|h2
  ·exact Or.inl h2
  ·exact Or.inr (by rw[h2];simp))
 have hs1:=hb.size;have hb2:Bl W0 (w3.setCell ⟨f (r.take i),0,none⟩ (.slice (some ⟨g3,0,none⟩) ((N (r.take i)).length+1) cp3)):=((hb.alloc hs1 _).grown hg (by simp;omega) (fun g hg'=>((hT.o0 _ hh).lt g hg').1)).setCell (hT.low _ hh) _;refine⟨_,_,rfl,by rw[hT2.c1 hh,h1],by have:=hT2.o1 _ hh;rw[h1]at this;exact this,hb2.size,fun w4 o' g4 cp4 hown4 hg4 hat4=>?_⟩;rw[<-h1]at hg4 hat4;have hblk:w4.heap[f (r.take i)]?=some (.cells #[xZ g0 (r.take i) (.slice (some ⟨g3,0,none⟩) ((N (r.take i)).length+1) cp3) (r.take i),g1 (r.take i)] 200 (0,0)):=(Yw hg4 (hT2.lt hh) (own_ne (hT2.o1 _ hh) (hT2.typ hh) (by decide))).trans (hT2.blk _ hh)
 refine⟨⟨YM hblk,by rw[cell_of_row _ _ _ _ _ _ hblk,<-h1];rfl⟩,?_,?_,LST.miss hi hs hx hM hT2 hr hk hb2 hown4 hg4 (fun g hg'=>by
  simp only[Value.ownBlock,Option.some.injEq]at hg';subst hg';rcases hat4 with h2|h2
  ·exact Or.inl h2
  ·exact Or.inr (by rw[h2];simp;omega))⟩
 ·have:=bG w4 (f (r.take i)) 1 _ _ (.slice (some ⟨g4,0,none⟩) ((N (r.take i)).length+1) cp4) hblk;rw[cell_of_row _ _ _ _ _ _ this];rfl
 ·have hm:=qC (w':=w4.setCell ⟨f (r.take i),1,none⟩ (.slice (some ⟨g4,0,none⟩) ((N (r.take i)).length+1) cp4)) hown4 fun g hg'=>bD _ _ _ _ (fun e2=>own_ne hown4 ⟨_,hblk⟩ (by decide) (by rw[hg'];exact congrArg some e2.symm));obtain⟨g,c,e,h2⟩:=xw hm (j:=(N (r.take i)).length) (by omega);simp only[Value.slice.injEq,Option.some.injEq,Addr.mk.injEq]at e;rw[<-e.1.1]at h2;rw[h2,bN (by simp),lM,Nat.sub_self];rfl
theorem qBc(W0 w:World)(rs:List (List Int))(K root:Nat)(vr:Value)(r:List Int)(h:TS W0 w rs K root)(hr:IS W0 vr r)(hl:r.length<=1000)(hs:∀s∈rs,qD s r < 0)(hK:K<=1000000):
 Cl 158 #[.pointer (some ⟨root,0,none⟩),vr] w fun e w'=>(∃v,e=.returned v)/\TS W0 w' (rs++[r]) (K+1) root:=by
 obtain⟨i0,hi,hz0,hz1,hz2⟩:=info_parts Tryz.infoInt;obtain⟨iP,hj,hy0,hy1,hy2⟩:=info_parts Tryz.infoTrieP;obtain⟨ar,cr,rfl,hc⟩:=hr
 have HC:Hid (∀W,Bl W0 W->∀j,j < r.length->∃(b o:Nat),ar=some ⟨b,o,none⟩/\W.cell? ⟨b,o+j,none⟩=some (.int .i64 (r.getD j 0))):=hid fun W hW j hj=>by
  rcases hc with h0|⟨b,o,rfl,h⟩
  ·omega
  ·exact⟨b,o,rfl,(hW.cell (bL W0 _ (h j hj))).trans (h j hj)⟩
 have HL:Hid (LST W0 w rs r 0 K root root):=hid (LST.start r h);have HS:=hid hs;have HD:Hid (∀W nd,LST W0 W rs r r.length K root nd->TS W0 W (rs++[r]) (K+1) root):=hid fun W nd h=>h.done;have HR:Hid (∀j,j < r.length->∀W nd,LST W0 W rs r j K root nd->Bl W0 W):=hid fun j _ W nd ⟨_,_,_,_,_,_,_,_,_,_,hb⟩=>hb;have HH:Hid (∀j,j < r.length->∀W nd,LST W0 W rs r j K root nd->_):=hid fun j hj W nd h=>h.hit hj hs;have HM:Hid (r.length=r.length):=hid rfl;obtain⟨n,hn⟩:∃n,n=r.length:=⟨_,rfl⟩;clear hc h hs;rw[<-hn]at HC HD HR HH hl HM ⊢;have HNr:=hid hn;clear hn HM;go_enter Tryz.func158,Tryz.ntmps158
 go_wp2_with fail
 go_loopw [0,9] (fun u t wr=>∃(j nd:Nat),j<=n/\t=.int .i64 j/\u=.pointer (some ⟨nd,0,none⟩)/\Hid (LST W0 wr rs r j K root nd)) (fun _ t _=>n - (intOf t).toNat)
 case atStart=>exact⟨0,root,nZ _,rfl,rfl,HL⟩
 case round=>
  clear HL;obtain⟨j,nd,hjn,rfl,rfl,HT⟩:=hrel;by_cases hlt:j < n
  ·have i1:(j:Int) < (n:Int):=by omega
   obtain⟨b,o,ea,e1⟩:=HC.out wr (HR.out j hlt wr nd HT.out) j hlt;subst ea;rcases HH.out j hlt wr nd HT.out with ⟨m,ga,ca,gb,cb,nx,c0,c1,c2,c3,hmK,hL⟩|⟨D,N,f,g0,g1,hx,hM,hTR,hrt,hnd,hk,hb⟩
   ·have HL:=hid hL;clear hL HH HR HD HC HS HT HNr;generalize r.getD j 0=x at *;go_wp2_with fail
    go_roundw
    case rel=>exact⟨j+1,nx,by omega,by go_num,rfl,HL⟩
    case measure=>simp[intOf];omega
   ·have hh:=hM.here;have hj':j < r.length:=by rw[<-HNr.out];exact hlt
    have hkl:=(hk _ hh).2 (by rw[bQ];omega);obtain⟨a0,k0,e0⟩:=Z9 (hTR.o0 _ hh);obtain⟨a1,k1,e1'⟩:=Z9 (hTR.o1 _ hh)
    have HF0:Hid (∀w3 o,(wr.alloc o).grownBy w3 (Value.slice a0 (N (r.take j)).length k0).ownBlock->w3.frozen? ⟨nd,0,none⟩=false/\w3.cell? ⟨nd,0,none⟩=some (.slice a0 (N (r.take j)).length k0)):=hid fun w3 o hg=>by
     rw[<-e0]at hg;have:=hTR.kept0 hh hg hh;rw[hnd]at this;exact⟨YM this,by rw[cell_of_row _ _ _ _ _ _ this,<-e0];rfl⟩
    have HH2:=hid fun w3 o g3 cp3 hown hg hat=>LST.half (w3:=w3) (o:=o) (g3:=g3) (cp3:=cp3) hj' HS.out hx hM hTR hrt hk hb e1' hown hg hat;have HO0:Hid (wr.ownsRow W0.heap.size 3 1 (.slice a0 (N (r.take j)).length k0) (N (r.take j)).length ((N (r.take j)).map (Value.int .i64))):=hid (by have:=hTR.o0 _ hh;rw[e0]at this;exact this);have c0:=hTR.c0 hh;rw[e0,hnd]at c0;rw[e0,hnd]at HH2;have hs1:=hb.size
    have hlast:(N (r.take j)).length=0∨∃m ga y,(N (r.take j)).length=m+1/\a0=some ⟨ga,0,none⟩/\wr.cell? ⟨ga,m,none⟩=some (.int .i64 y)/\y≠r.getD j 0:=by
     rcases Nat.eq_zero_or_pos (N (r.take j)).length with h0|h0
     ·exact Or.inl h0
     ·obtain⟨m,hm⟩:∃m,(N (r.take j)).length=m+1:=⟨(N (r.take j)).length - 1,by omega⟩;obtain⟨ga,ca,ea,ca'⟩:=xw (hTR.o0 _ hh) (j:=m) (by omega);rw[e0]at ea;simp only[Value.slice.injEq]at ea;refine Or.inr ⟨m,ga,_,hm,ea.1,?_,qCg hx h0⟩
      have e9:(N (r.take j)).getD ((N (r.take j)).length - 1) 0=(N (r.take j))[m]'(by omega):=by
       rw[gD,gE (by omega),Option.getD_some];simp only[hm,Nat.add_sub_cancel]
      rw[ca',bJ,gE (by omega),e9];rfl
    clear HH HR HD HC HT HS hx hM hTR hrt hnd hk hb hh e0 e1' hj' HNr;generalize r.getD j 0=x at *;generalize (N (r.take j)).length=l0 at *;rcases hlast with h0|⟨m,ga,y,h0,ea,cy,hy⟩
    ·subst h0;go_upto_region 6 with (first|(at_builtin;(refine wpList_append_lies _ rfl _ _ 24 rfl W0.heap.size 3 i0 (.int .i64 0) 1 8 Tryz.underlying24 hi hz0 hz1 hz2 rfl (by decide) (.slice a0 (0) k0) _ _ rfl (HO0.out.alloc _) ⟨_,0,none⟩ 1 1 [.int .i64 x] rfl rfl (qH _ _ _) (fun u hu=>by simp at hu;subst hu;rfl) (by decide) (by unfold maxLen;omega) (by omega) (by simp;omega) _ rfl ?_;intro g3 cp3 w3 hown3 hgrow3 hat3 hlt3;obtain⟨f0',c0'⟩:=HF0.out w3 _ hgrow3))|fail)
     obtain⟨W2,xs,hW2,d1,ho1,hs2,hrest⟩:=HH2.out w3 _ g3 cp3 hown3 hgrow3 hat3;have HO1:=hid ho1;have HRest:=hid hrest;rw[<-hW2];clear hW2 hown3 hgrow3 hat3 hlt3 f0' c0' ho1 hrest HH2 HF0 HO0 c0;go_upto_region 7 with (first|(at_builtin;(refine wpList_append_lies _ rfl _ _ 132 rfl W0.heap.size 137 iP (.pointer none) 1 8 Tryz.underlying132 hj hy0 hy1 hy2 rfl (by decide) (.slice a1 (0) k1) _ xs rfl ((HO1.out.alloc _).alloc _) ⟨_,0,none⟩ 1 1 [.pointer (some ⟨W2.heap.size,0,none⟩)] rfl rfl (XA _ _ _ _) (fun u hu=>by simp at hu;subst hu;rfl) (by decide) (by unfold maxLen;omega) (by omega) (by simp;omega) _ rfl ?_;intro g4 cp4 w4 hown4 hgrow4 hat4 hlt4;obtain⟨f1',c1'⟩:=(HRest.out w4 _ g4 cp4 hown4 hgrow4 hat4).1))|fail)
     obtain⟨-,q1,q2,hL⟩:=HRest.out w4 _ g4 cp4 hown4 hgrow4 hat4;have HL:=hid hL;clear hL hown4 hgrow4 hat4 hlt4 f1' c1' HRest HO1 d1;generalize w4.setCell ⟨nd,1,none⟩ (.slice (some ⟨g4,0,none⟩) (0+1) cp4)=W5 at *;go_wp2_with fail
     go_roundw
     case rel=>exact⟨j+1,W2.heap.size,by omega,by go_num,rfl,HL⟩
     case measure=>simp[intOf];omega
    ·subst h0 ea;have dm:decide ((m:Int) < 0)=false:=decide_eq_false (by omega);have yx:(y != x)=true:=by simpa using hy
     go_upto_region 6 with (first|(at_builtin;(refine wpList_append_lies _ rfl _ _ 24 rfl W0.heap.size 3 i0 (.int .i64 0) 1 8 Tryz.underlying24 hi hz0 hz1 hz2 rfl (by decide) (.slice (some ⟨ga,0,none⟩) (m+1) k0) _ _ rfl (HO0.out.alloc _) ⟨_,0,none⟩ 1 1 [.int .i64 x] rfl rfl (qH _ _ _) (fun u hu=>by simp at hu;subst hu;rfl) (by decide) (by unfold maxLen;omega) (by omega) (by simp;omega) _ rfl ?_;intro g3 cp3 w3 hown3 hgrow3 hat3 hlt3;obtain⟨f0',c0'⟩:=HF0.out w3 _ hgrow3))|fail)
     obtain⟨W2,xs,hW2,d1,ho1,hs2,hrest⟩:=HH2.out w3 _ g3 cp3 hown3 hgrow3 hat3;have HO1:=hid ho1;have HRest:=hid hrest;rw[<-hW2];clear hW2 hown3 hgrow3 hat3 hlt3 f0' c0' ho1 hrest HH2 HF0 HO0 c0 cy;go_upto_region 7 with (first|(at_builtin;(refine wpList_append_lies _ rfl _ _ 132 rfl W0.heap.size 137 iP (.pointer none) 1 8 Tryz.underlying132 hj hy0 hy1 hy2 rfl (by decide) (.slice a1 (m+1) k1) _ xs rfl ((HO1.out.alloc _).alloc _) ⟨_,0,none⟩ 1 1 [.pointer (some ⟨W2.heap.size,0,none⟩)] rfl rfl (XA _ _ _ _) (fun u hu=>by simp at hu;subst hu;rfl) (by decide) (by unfold maxLen;omega) (by omega) (by simp;omega) _ rfl ?_;intro g4 cp4 w4 hown4 hgrow4 hat4 hlt4;obtain⟨f1',c1'⟩:=(HRest.out w4 _ g4 cp4 hown4 hgrow4 hat4).1))|fail)
     obtain⟨-,q1,q2,hL⟩:=HRest.out w4 _ g4 cp4 hown4 hgrow4 hat4;have HL:=hid hL;clear hL hown4 hgrow4 hat4 hlt4 f1' c1' HRest HO1 d1;generalize w4.setCell ⟨nd,1,none⟩ (.slice (some ⟨g4,0,none⟩) (m+1+1) cp4)=W5 at *;go_wp2_with fail
     go_roundw
     case rel=>exact⟨j+1,W2.heap.size,by omega,by go_num,rfl,HL⟩
     case measure=>simp[intOf];omega
  ·obtain rfl:j=n:=by omega
   have i1:¬((j:Int) < (j:Int)):=by omega
   have HF:=hid (HD.out wr nd HT.out);clear HC HD HR HH HT HS;go_wp2_with fail
   go_end0
   exact⟨⟨_,rfl⟩,HF.out⟩
theorem TS.start(w:World):TS w (w.alloc (.cells #[.slice none 0 0,.slice none 0 0] 200)) [] 0 w.heap.size:=by
 refine⟨_,_,fun _=>w.heap.size,fun _=>.slice none 0 0,fun _=>.slice none 0 0,TM.none,⟨fun p _=>heap_alloc_new _ _,fun p _=>nR _,fun p _=>oN _ _ _ _,fun p _=>oN _ _ _ _,fun p q hp hq _=>hp.trans hq.symm,fun p q _ _ _ g h=>by simp[Value.ownBlock]at h,fun p q _ _ _ g h=>by simp[Value.ownBlock]at h⟩,rfl,fun p _=>nR _,(bI _ _).alloc (nR _) _⟩
theorem TS.bw(h:TS W0 W rs K root):Bl W0 W:=by
 obtain⟨_,_,_,_,_,_,_,_,_,hb⟩:=h;exact hb
theorem qDk{rows:List (List Int)}(h:SL rows)(hj:j < rows.length):∀s∈rows.take j,qD s (rows.getD j []) < 0:=fun s hs=>by
 obtain⟨i,hi,e⟩:=gO hs;rw[bQ]at hi;rw[List.getElem_take]at e;have:=List.pairwise_iff_getElem.1 h i j (by omega) hj (by omega);rw[gD,gE hj,<-e];exact this
theorem Uu(w:World)(vr:Value)(rows:List (List Int))(hr:ISS w vr rows)(hS:SL rows)(hn:rows.length<=100000)(hl:∀r∈rows,r.length<=1000):
 Cl 130 #[vr] w fun e w'=>∃c,e=.returned (.pointer c)/\(rows=[]/\c=none∨rows≠[]/\∃root,c=some ⟨root,0,none⟩/\TS w w' rows rows.length root)/\Bl w w':=by
 obtain⟨ar,cr,rfl,hc⟩:=hr
 have HC:Hid (∀W,Bl w W->∀j,j < rows.length->∃(b o:Nat) (u:Value),ar=some ⟨b,o,none⟩/\W.cell? ⟨b,o+j,none⟩=some u/\IS w u (rows.getD j [])):=hid fun W hW j hj=>by
  rcases hc with h0|⟨b,o,rfl,h⟩
  ·omega
  ·obtain⟨u,h1,h2⟩:=h j hj;exact⟨b,o,u,rfl,(hW.cell (bL w _ h1)).trans h1,h2⟩
 have KA:Hid (∀W u j,j < rows.length->TS w W (rows.take j) j w.heap.size->IS w u (rows.getD j [])->Cl 158 #[.pointer (some ⟨w.heap.size,0,none⟩),u] W fun e w'=>(∃v,e=.returned v)/\TS w w' (rows.take (j+1)) (j+1) w.heap.size):=hid fun W u j hj hT hu=>by
  have hm:rows.getD j []∈rows:=by rw[gD,gE hj];exact gM _
  have e:rows.take (j+1)=rows.take j++[rows.getD j []]:=by
   rw[tA,gE hj,gD,gE hj];rfl
  rw[e];exact qBc w W (rows.take j) j w.heap.size u _ hT hu (hl _ hm) (qDk hS hj) (by omega)
 have H0:=hid (TS.start w);have HE:Hid (∀W,TS w W (rows.take rows.length) rows.length w.heap.size->TS w W rows rows.length w.heap.size):=hid fun W h=>by rw[tL]at h;exact h
 have HZ:Hid (rows.length=0->rows=[]):=hid fun h=>List.length_eq_zero_iff.1 h;have HZ2:Hid (0 < rows.length->rows≠[]):=hid fun h e=>by rw[e]at h;simp at h
 have HT0:Hid (rows.take 0=[]):=hid rfl;clear hc hS hl;obtain⟨n,hn'⟩:∃n,n=rows.length:=⟨_,rfl⟩;rw[<-hn']at HC KA HE HZ HZ2 hn ⊢;clear hn';rcases Nat.eq_zero_or_pos n with h0|h0
 ·subst h0;have hz:=HZ.out rfl;clear HC KA HE HZ HZ2 H0;go_enter Tryz.func130,Tryz.ntmps130
  go_wp2_with fail
  go_ret;exact⟨_,rfl,Or.inl ⟨hz,rfl⟩,bI _ _⟩
 ·have i0:((n:Int) == 0)=false:=by simp;omega
  have hz:=hid (HZ2.out h0);clear HZ HZ2;go_enter Tryz.func130,Tryz.ntmps130
  go_upto_region 4 with fail
  generalize w.alloc (.cells #[.slice none 0 0,.slice none 0 0] 200)=W1 at *;go_wp2_with fail
  go_loopw [13] (fun t wr=>∃(j:Nat),j<=n/\t=.int .i64 j/\Hid (TS w wr (rows.take j) j w.heap.size)) (fun t _=>n - (intOf t).toNat)
  case atStart=>exact⟨0,nZ _,rfl,hid (by rw[HT0.out];exact H0.out)⟩
  case round=>
   clear H0 HT0;obtain⟨j,hj,rfl,HT⟩:=hrel;by_cases hjn:j < n
   ·have i1:(j:Int) < (n:Int):=by omega
    obtain⟨b,o,u,ea,e1,hu⟩:=HC.out wr HT.out.bw j hjn;subst ea;have KA1:=hid (KA.out wr u j hjn HT.out hu);obtain⟨au,cu,rfl,-⟩:=hu;clear HC KA HE HT;generalize (rows.getD j []).length=lr at *;go_wp2_with fail
    refine KA1.out.mono ?_;rintro e w2 ⟨⟨v,rfl⟩,hT2⟩;have HT2:=hid hT2;clear hT2 KA1;go_wp2_with fail
    go_roundw
    case rel=>exact⟨j+1,by omega,by go_num,HT2⟩
    case measure=>simp[intOf];omega
   ·obtain rfl:j=n:=by omega
    have i1:¬((j:Int) < (j:Int)):=by omega
    have HF:=hid (HE.out wr HT.out);clear HC KA HE HT;go_wp2_with fail
    go_ret;exact⟨_,rfl,Or.inr ⟨hz.out,_,rfl,HF.out⟩,HF.out.bw⟩
end Go.Proofs.YtjbpgdpciinlcaaGreat
