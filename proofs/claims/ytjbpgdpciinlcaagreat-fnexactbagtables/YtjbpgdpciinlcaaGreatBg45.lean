import Derived.Test.YtjbpgdpciinlcaaGreatBg09
import Derived.Test.YtjbpgdpciinlcaaGreatBg38
import Derived.Test.YtjbpgdpciinlcaaGreatBg44
set_option maxHeartbeats 40000000
set_option maxRecDepth 1000000
namespace Go.Proofs.YtjbpgdpciinlcaaGreat
open Go.RowKit
variable {k:Int}{bs:List (List Int)}{b l o vs:List Int}{tl:List TbV}{j:Nat}{t:TbV}
theorem Jf(h:l.Pairwise (·< ·))(hb:∀x∈l,0<=x/\x < 6):qP l=true:=uu fun i hi=>by
 have hm:l.getD i 0=l[i]:=by rw[gD,gE hi];rfl
 have h1:=hb _ (gM hi);rw[<-hm]at h1;unfold zp;rw[bA,bA,Bool.or_eq_true,dE,dE,dE,dE];refine⟨⟨h1.1,h1.2⟩,?_⟩;by_cases e:i=0
 ·exact Or.inl e
 ·refine Or.inr ?_;have h2:l.getD (i - 1) 0=l[i - 1]:=by rw[gD,gE (by omega)];rfl
  rw[hm,h2];exact List.pairwise_iff_getElem.1 h (i - 1) i (by omega) hi (by omega)
theorem XC(h:qP l=true){x:Int}(hx:x∈l):0<=x/\x < 6:=by
 obtain⟨i,hi,rfl⟩:=gO hx;have h1:=jq h i hi;rw[gD,gE hi]at h1;have h2:(i:Int)<=l[i]:=h1.1;exact⟨by omega,h1.2⟩
def prR(b:List Int)(t:TbV):List (List Int):=srt (t.rows.map (qK t.vs (shr t.vs b)))
def prT(b:List Int)(t:TbV):TbV:=⟨shr t.vs b,prR b t,xW (prR b t).length⟩
def hasB(b:List Int)(t:TbV):Bool:=decide (0 < (shr t.vs b).length)
def zI(tl:List TbV)(b:List Int):List TbV:=(tl.filter (hasB b)).map (prT b)
theorem jN(tl:List TbV)(b:List Int):(zI tl b).length<=tl.length:=by
 unfold zI;rw[lM];exact List.length_filter_le _ _
theorem Xt(hj:j < tl.length):zI (tl.take (j+1)) b=zI (tl.take j) b++(if hasB b (tl.getD j qA) then [prT b (tl.getD j qA)] else []):=by
 unfold zI;rw[tA,gE hj,List.filter_append,mA,gD,gE hj];show _++List.map (prT b) (List.filter (hasB b) [tl[j]])=_++(if hasB b tl[j] then [prT b tl[j]] else []);rw[List.filter_cons];split <;> rfl
theorem qDr(b:List Int):SL (prR b t)/\(prR b t).length<=t.rows.length/\∀r∈prR b t,r.length=(shr t.vs b).length:=by
 unfold prR;have hS:=yk _ (t.rows.map (qK t.vs (shr t.vs b))) (nR _);have hL:=x8 _ (t.rows.map (qK t.vs (shr t.vs b))) (nR _);rw[lM]at hL;refine⟨hS.1,hL,fun r hr=>?_⟩;obtain⟨q,-,rfl⟩:=List.mem_map.1 ((hS.2 r).1 hr);exact uP _ _ _
theorem Jg(h:qc t=true)(b:List Int):qc (prT b t)=true:=by
 obtain⟨h1,h2,h3⟩:=zK h;obtain⟨g1,g2,g3⟩:=qDr (t:=t) b;show zE (shr t.vs b) (prR b t) (xW (prR b t).length)=true;generalize prR b t=R at *;unfold zE;rw[bA,bA,bA,dE,dE];refine⟨⟨⟨Jf (qBQ (vz h1)) fun x hx=>XC h1 (ZE hx),by omega⟩,jO fun i hi=>?_⟩,y7 _⟩;have hm:∀{i:Nat} (hi:i < R.length),R.getD i []=R[i]:=fun {i} hi=>by rw[gD,gE hi];rfl
 unfold rowAt;rw[bA,Bool.or_eq_true,dE,dE,dE];refine⟨by rw[hm hi,g3 _ (gM hi)],?_⟩;by_cases e:i=0
 ·exact Or.inl e
 ·refine Or.inr ?_;rw[hm hi,hm (show i - 1 < R.length by omega)];exact List.pairwise_iff_getElem.1 g1 (i - 1) i (by omega) hi (by omega)
theorem qCs(hp:zb k (tl.map TbV.vs)=true)(hs:qP b=true)(hb:zR k b=true):vrJ (zI tl b)=b:=by
 refine qAH (UA _ _) (vz hs) fun x=>⟨fun hx=>?_,fun hx=>?_⟩
 ·obtain⟨i,-,h1,rfl⟩:=vu.1 hx;unfold qk at h1;obtain⟨t,ht,h2⟩:=List.any_eq_true.1 h1;obtain⟨s,-,rfl⟩:=List.mem_map.1 ht;exact YK (of_decide_eq_true h2)
 ·have h1:=(Xb hp hs hb).2;unfold xc at h1;rw[aT]at h1;have h2:=h1 x hx;obtain⟨h3,h4⟩:=XC hs hx;obtain⟨e,he,h5⟩:=List.any_eq_true.1 h2;obtain⟨t,ht,rfl⟩:=List.mem_map.1 he;have h6:x∈shr t.vs b:=List.mem_filter.2 ⟨of_decide_eq_true h5,decide_eq_true hx⟩;refine vu.2 ⟨x.toNat,by omega,?_,by omega⟩;unfold qk;refine List.any_eq_true.2 ⟨prT b t,List.mem_map.2 ⟨t,List.mem_filter.2 ⟨ht,decide_eq_true (List.length_pos_of_mem h6)⟩,rfl⟩,decide_eq_true ?_⟩;rw[show((x.toNat:Nat):Int)=x by omega];exact h6
theorem qCt(ht:tl.all qc=true)(hp:zb k (tl.map TbV.vs)=true)(hb:zj k b=true):okJ (zI tl b) b=true:=by
 unfold zj at hb;rw[bA,bA]at hb;have h7:=yW (ui hp).2.2;rw[lM]at h7;unfold okJ;rw[bA,bA,dE];refine⟨⟨by have:=jN tl b;omega,aT.2 fun t h=>?_⟩,yT.2 (by rw[qCs hp hb.1.2 hb.2])⟩;obtain⟨s,hs,rfl⟩:=List.mem_map.1 h;exact Jg (aT.1 ht s (List.mem_filter.1 hs).1) b
def bgR(tl:List TbV)(b:List Int):List (List Int):=y5 (zI tl b) b
def bgT(tl:List TbV)(b:List Int):TbV:=⟨b,bgR tl b,xW (bgR tl b).length⟩
def bgV(tl:List TbV)(b:List Int):Int:=ya (zI tl b) b
def zv(k:Int)(tl:List TbV)(bs:List (List Int))(ps hs:List Int)(ws:List (Int×Int))(x:Int×Int):Bool:=tl.all qc&&zo k (tl.map TbV.vs) bs ps hs ws x
def Qm(k:Int)(tl:List TbV)(bs:List (List Int))(ps hs:List Int)(ws:List (Int×Int))(x:Int×Int):Bool:=zv k tl bs ps hs ws x&&bs.all fun b=>decide (0<=bgV tl b)
def zZ(k:Int)(tl:List TbV)(bs:List (List Int))(ps hs:List Int)(ws:List (Int×Int))(x:Int×Int):List TbV:=if Qm k tl bs ps hs ws x then bs.map (bgT tl) else []
def xU(k:Int)(tl:List TbV)(bs:List (List Int))(ps hs:List Int)(ws:List (Int×Int))(x:Int×Int):Int:=if Qm k tl bs ps hs ws x then (bs.map (bgV tl)).sum else -1
theorem xx{ps hs:List Int}{ws:List (Int×Int)}{x:Int×Int}(h:zv k tl bs ps hs ws x=true):tl.all qc=true/\zb k (tl.map TbV.vs)=true/\bs.length<=12/\tl.length<=7/\∀i,i < bs.length->zj k (bs.getD i [])=true/\qP (bs.getD i [])=true:=by
 unfold zv zo at h;rw[bA,bA,bA,bA,bA,bA]at h;obtain⟨h0,⟨⟨⟨⟨h1,h2⟩,-⟩,-⟩,-⟩,-⟩:=h;have h7:=yW (ui h1).2.2;rw[lM]at h7;unfold ye at h2;rw[bA,dE,aT]at h2;refine⟨h0,h1,h2.1,h7,fun i hi=>?_⟩;have h3:=h2.2 (bs.getD i []) (by rw[gD,gE hi];exact gM hi);refine⟨h3,?_⟩;unfold zj at h3;rw[bA,bA]at h3;exact h3.1.2
theorem XD:ya tl o<=60000:=by
 unfold ya;by_cases h:okJ tl o&&smJ tl o o.length
 ·rw[if_pos h];rw[bA]at h;have h3:=h.1;unfold okJ at h3;rw[bA]at h3;have h1:=(yT.1 h3.2).length_eq;have h2:=QJ tl;have h4:=V7 h.2;omega
 ·rw[if_neg h];omega
theorem XE:-1<=ya tl o:=by
 unfold ya;split <;> omega
def zl(tl:List TbV)(bs:List (List Int))(j:Nat):Int:=((bs.take j).map (bgV tl)).sum
theorem kI(hj:j < bs.length):zl tl bs (j+1)=zl tl bs j+bgV tl (bs.getD j []):=by
 unfold zl;rw[tA,gE hj,mA,List.sum_append,gD,gE hj];simp
theorem XF(tl:List TbV)(bs:List (List Int)):∀j,j<=bs.length->-1*(j:Int)<=zl tl bs j/\zl tl bs j<=60000*(j:Int)
 |0,_=>by simp[zl]
 |j+1,h=>by
  have ih:=XF tl bs j (by omega);rw[kI (by omega)];have h1:bgV tl (bs.getD j [])<=60000:=XD;have h2:-1<=bgV tl (bs.getD j []):=XE;omega
theorem qDs(hb:qP b=true):TvOk (bgT tl b):=⟨zx hb,yb.1,by show(xW _).length<=_;rw[y7];exact yb.1,yb.2⟩
section
variable {k:Int} {tl:List TbV} {bs:List (List Int)} {ps hs:List Int} {ws:List (Int×Int)} {x:Int×Int}
theorem qCi(h:zv k tl bs ps hs ws x=false):zZ k tl bs ps hs ws x=[]/\xU k tl bs ps hs ws x=-1:=by
 unfold zZ xU Qm;rw[h,Bool.false_and];exact⟨rfl,rfl⟩
theorem qAb(hj:j < bs.length)(h:bgV tl (bs.getD j []) < 0):zZ k tl bs ps hs ws x=[]/\xU k tl bs ps hs ws x=-1:=by
 have e:(bs.all fun b=>decide (0<=bgV tl b))=false:=by
  rw[List.all_eq_false];refine⟨bs.getD j [],by rw[gD,gE hj];exact gM hj,?_⟩;rw[decide_eq_false (by omega)];decide
 unfold zZ xU Qm;rw[e,Bool.and_false];exact⟨rfl,rfl⟩
theorem qAc(h:zv k tl bs ps hs ws x=true)(hv:∀i,i < bs.length->0<=bgV tl (bs.getD i [])):zZ k tl bs ps hs ws x=bs.map (bgT tl)/\xU k tl bs ps hs ws x=zl tl bs bs.length:=by
 have e:(bs.all fun b=>decide (0<=bgV tl b))=true:=by
  rw[aT];intro b hb;obtain⟨i,hi,rfl⟩:=gO hb;have:=hv i hi;rw[gD,gE hi]at this;exact decide_eq_true this
 unfold zZ xU Qm zl;rw[e,h,tL];exact⟨rfl,rfl⟩
end
theorem Xu(hj:j < bs.length):(bs.take (j+1)).map (bgT tl)=(bs.take j).map (bgT tl)++[bgT tl (bs.getD j [])]:=by
 rw[tA,gE hj,mA,gD,gE hj];rfl
open Meet
theorem qDo:(plc (fun i=>decide (vs.getD i 0∈b)) vs.length).length=(shr vs b).length:=by
 have h:=congrArg List.length (Zz vs b);unfold atP at h;rw[lM]at h;exact h
theorem qDp{p:Nat->Bool}{k:Nat}:∀x∈plc p k,0<=x/\x < (k:Int):=fun x hx=>by
 obtain⟨i,h1,-,rfl⟩:=vu.1 hx;omega
theorem qDq(h:qc t=true)(b:List Int):kn t.vs t.rows t.ws (shr t.vs b)=true:=by
 have h1:=(zK h).1;unfold kn;rw[bA,bA];exact⟨⟨h,Jf (qBQ (vz h1)) fun x hx=>XC h1 (ZE hx)⟩,aT.2 fun x hx=>decide_eq_true (ZE hx)⟩
theorem TQ.tw{W:World}{B:Nat}{v0 v1 v2:Value}{us:List Value}{ws:List Int}{rows:List (List Int)}(h:TQ W B v0 v1 v2 us vs rows ws):TW W B v0 v1 v2 us vs rows ws:=⟨h.o0,h.rq,h.o2,h.a02,h.a0,h.a2⟩
theorem qAa(h:qc t=true):TvS t:=by
 obtain⟨h1,h2,h3⟩:=zK h;have h4:=zx h1
 have h5:t.ws.length=t.rows.length:=by
  have h':zE t.vs t.rows t.ws=true:=h;unfold zE at h';rw[bA,dE]at h';exact h'.2
 refine⟨by omega,⟨by omega,fun j=>?_⟩,by omega⟩;rw[gD];cases e:t.rows[j]? with
 |none=>exact nZ _
 |some r=>have:=h3 r (List.mem_of_getElem? e);show r.length<=_;omega
theorem KD{A X:World}(h:Bl A X)(o:Obj):Bl A (X.alloc o):=h.alloc h.size o
theorem XB(w:World)(vb vt:Value)(b:List Int)(tl:List TbV)(hb:IS w vb b)(h:ITs w vt tl)(hb6:qP b=true)(hl:tl.length<=7)(hok:∀t∈tl,qc t=true):
 Cl 32 #[vb,vt] w fun e w'=>∃x0 x1 x2 us,e=.returned (.tuple #[.agg #[x0,x1,x2],.int .i64 (bgV tl b)])/\TW w' w.heap.size x0 x1 x2 us b (bgR tl b) (xW (bgR tl b).length)/\Bl w w':=by
 obtain⟨iT,hj,hz0,hz1,hz2⟩:=info_parts Tryz.infoTb;have hmix:Tryz.prog.follows .mixedOrders=true:=by kernel_rfl
 have hbl:=zx hb6;have hbd:∀W:World,Bl W W.drew:=fun W=>(bI _ _).drew;obtain⟨W1,hW1⟩:∃W1,W1=w.alloc (.cells #[.slice none 0 0,.slice none 0 0,.slice none 0 0] 53):=⟨_,rfl⟩;have HB1:Hid (Bl w W1):=hid (by rw[hW1];exact(bI _ _).alloc (nR _) _);have HX1:Hid (TX W1 w.heap.size (.slice none 0 0) (.slice none 0 0) (.slice none 0 0)):=hid (by rw[hW1];exact TX.made _ _ _ _);have HIb:Hid (∀W,Bl W1 W->IS W vb b):=hid fun W hW=>hb.below (bt HB1.out hW)
 have KJ:Hid (∀W v ptl,Bl W1 W->TBs W W1.heap.size v ptl->ptl.map tvB=zI tl b->Cl 61 #[v,vb] W fun e w'=>∃v us,e=.returned (.tuple #[v,.int .i64 (bgV tl b)])/\RQ w' W.heap.size v us (bgR tl b)/\Bl W w'):=hid fun W v ptl hW hT he=>by
  refine Kv W v vb (zI tl b) b (by rw[<-he];exact hT.its) (HIb.out W hW) (bK (jN tl b) (by omega)) (by omega) fun t ht=>?_;obtain⟨s,hs,rfl⟩:=List.mem_map.1 ht;exact qAa (Jg (hok s (List.mem_filter.1 hs).1) b)
 have KPt:Hid (∀W v n,Bl W1 W->(∃a c,v=.slice a n c)->n<=100000->Cl 62 #[vb,v] W fun e w'=>∃v0 v2,e=.returned (.agg #[v0,v,v2])/\w'.ownsRow W.heap.size 3 1 v0 b.length (b.map (Value.int .i64))/\w'.ownsRow W.heap.size 3 1 v2 n (List.replicate n (.int .i64 1))/\Ap' v0 v2/\Bl W w'):=hid fun W v n hW hv hn=>uO W vb v b n (HIb.out W hW) hv (by omega) hn;obtain⟨at',ct,rfl,hc⟩:=h
 have HC:Hid (∀W,Bl W1 W->∀j,j < tl.length->∃b oo,at'=some ⟨b,oo,none⟩/\TabAt W b (oo+j*3) (tl.getD j qA)):=hid fun W hW j hj=>by
  rcases hc with h0|⟨b,oo,rfl,h⟩
  ·omega
  ·exact⟨b,oo,rfl,(h j hj).below (bt HB1.out hW)⟩
 have HOf:Hid (∀j,j < tl.length->qc (tl.getD j qA)=true):=hid fun j hj=>hok _ (by rw[gD,gE hj];exact gM _);have HPS:Hid (∀j,j < tl.length->zI (tl.take (j+1)) b=zI (tl.take j) b++(if hasB b (tl.getD j qA) then [prT b (tl.getD j qA)] else [])):=hid fun j hj=>Xt hj;have HPl:Hid (∀j,(zI (tl.take j) b).length<=j):=hid fun j=>bK (jN _ _) (by rw[bQ];omega);have HP0:Hid (zI (tl.take 0) b=[]):=hid rfl;have HPn:Hid (zI (tl.take tl.length) b=zI tl b):=hid (by rw[tL]);have HRs:Hid ((bgR tl b).length<=10000):=hid yb.1;obtain⟨n,hn⟩:∃n,n=tl.length:=⟨_,rfl⟩;rw[<-hn]at hl HC HOf HPS HPn ⊢;clear hn hc hok;obtain⟨ab,cb,rfl,-⟩:=hb;obtain⟨nb,hnb⟩:∃nb,nb=b.length:=⟨_,rfl⟩;have HNB:=hid hnb;rw[<-hnb]at KJ KPt HIb hbl ⊢;clear hnb hb6;generalize bgV tl b=BV at *;generalize hBR:bgR tl b=BR at *;clear hBR;go_enter Tryz.func32,Tryz.ntmps32
 go_upto_region 1 with fail
 rw[<-hW1];clear hW1;go_wp2_with fail
 go_loopw [6,14] (fun u t wr=>∃(j:Nat) (vp:Value),j<=n/\t=.int .i64 j/\vp=u/\Hid (∃ptl,Bl W1 wr/\TBs wr W1.heap.size vp ptl/\ptl.map tvB=zI (tl.take j) b)) (fun _ t _=>n - (intOf t).toNat)
 case atStart=>exact⟨0,_,nZ _,rfl,rfl,hid ⟨[],bI _ _,⟨oN _ _ _ _,fun t ht=>by simp at ht,List.Pairwise.nil⟩,by rw[HP0.out];rfl⟩⟩
 case round=>
  obtain⟨j,vp,hjn,rfl,rfl,HT⟩:=hrel;obtain⟨ptl,hB,hT,hE⟩:=HT.out;have HB:=hid hB;have HTb:=hid hT;have HE:=hid hE;clear HT hB hT hE;by_cases hlt:j < n
  ·have i1:(j:Int) < (n:Int):=by omega
   obtain⟨bb,oo,ea,v0,v1,v2,c0,c1,c2,hI⟩:=HC.out wr HB.out j hlt;subst ea;have HPj:=hid (HPS.out j hlt);have htab:=HOf.out j hlt;generalize tl.getD j qA=tb at *;have HTab:=hid htab;obtain⟨W3,hW3⟩:∃W3,W3=wr.alloc (.cells #[v0,v1,v2] 53):=⟨_,rfl⟩;have hB3:Bl wr W3:=by rw[hW3];exact(bI _ _).alloc (nR _) _
   have HX3:Hid (TX W3 wr.heap.size v0 v1 v2):=hid (by rw[hW3];exact TX.made _ _ _ _);have HI3:=hid (hI.below hB3);have HB3:=hid hB3;obtain⟨a0,k0,e0,-⟩:=hI.vs;obtain⟨a1,k1,e1,-⟩:=hI.rows;obtain⟨a2,k2,e2,-⟩:=hI.ws;subst e0 e1 e2;have h6:=zx (zK htab).1;have hr4:=(zK htab).2.1
   have KPl:Hid (Cl 58 #[.slice a0 tb.vs.length k0,.slice ab nb cb] W3 fun e w'=>∃v,e=.returned v/\w'.ownsRow W3.heap.size 3 1 v (shr tb.vs b).length ((plc (fun i=>decide (tb.vs.getD i 0∈b)) tb.vs.length).map (Value.int .i64))/\Bl W3 w'):=hid (by
    have:=xR W3 (.slice a0 tb.vs.length k0) (.slice ab nb cb) tb.vs b HI3.out.vs (HIb.out W3 (bt HB.out HB3.out)) (by omega) (by rw[<-HNB.out];omega);rw[qDo]at this;exact this)
   have KV:Hid (∀W v,Bl W3 W->IS W v (plc (fun i=>decide (tb.vs.getD i 0∈b)) tb.vs.length)->Cl 60 #[.slice a0 tb.vs.length k0,v] W fun e w'=>∃v,e=.returned v/\w'.ownsRow W.heap.size 3 1 v (shr tb.vs b).length ((shr tb.vs b).map (Value.int .i64))/\Bl W w'):=hid fun W v hW hv=>by
    have:=jK W (.slice a0 tb.vs.length k0) v tb.vs _ (HI3.out.below hW).vs hv (bK (xd _ _) (by omega)) qDp;rw[Zz]at this;exact this
   have KPr:Hid (∀W v,Bl W3 W->IS W v (shr tb.vs b)->Cl 59 #[.agg #[.slice a0 tb.vs.length k0,.slice a1 tb.rows.length k1,.slice a2 tb.ws.length k2],v] W fun e w'=>∃x0 x1 x2 us,e=.returned (.agg #[x0,x1,x2])/\TQ w' W.heap.size x0 x1 x2 us (shr tb.vs b) (prR b tb) (xW (prR b tb).length)/\Bl W w'):=hid fun W v hW hv=>by
    have hS:=qAa HTab.out;have:=Xf W _ _ _ v tb.vs tb.rows tb.ws (shr tb.vs b) (HI3.out.below hW) hv (bK (y8 _ _) hS.vs) hS.vs hS.rows;refine this.mono ?_;rintro e w' ⟨x0,x1,x2,us,rfl,h1,h2⟩;rw[if_pos (qDq HTab.out b)]at h1;exact⟨x0,x1,x2,us,rfl,h1,h2⟩
   have hlp:(shr tb.vs b).length<=6:=bK (y8 _ _) h6;have hph:hasB b tb=decide (0 < (shr tb.vs b).length):=rfl;rw[hph]at HPj;clear hph hI htab h6 hr4 HTab HI3 hB3;obtain⟨ns,hns⟩:∃ns,ns=(shr tb.vs b).length:=⟨_,rfl⟩;have HNS:=hid hns;rw[<-hns]at KPl KV HPj hlp;clear hns;obtain⟨tv,htv⟩:∃tv,tv=prT b tb:=⟨_,rfl⟩;have HTV:=hid htv;rw[<-htv]at HPj;clear htv;generalize hpp:plc (fun i=>decide (tb.vs.getD i 0∈b)) tb.vs.length=PP at *;clear hpp;generalize tb.vs.length=l0 at *;generalize tb.rows.length=l1 at *;generalize tb.ws.length=l2 at *;go_upto_region 5 with fail
   rw[<-hW3];clear hW3 c0 c1 c2;have d0:=HX3.out.c0;by_cases hpos:0 < ns
   ·have i2:(0:Int) < (ns:Int):=by omega
    rw[decide_eq_true hpos,if_pos rfl]at HPj;go_upto_region 7 with (first|(go_at_call 58;refine KPl.out.mono ?_;rintro e W4 ⟨v4,rfl,ho4,hb4⟩;obtain⟨a4,k4,e4⟩:=qT ho4;subst e4)|fail)
    have HX4:=hid (HX3.out.below hb4);have HB4:=hid (bt HB3.out hb4)
    have HI4:Hid (IS W4 (.slice a4 ns k4) PP):=hid (by
     have h1:=ho4.1;rw[lM]at h1;exact qW (by rw[show PP.length=ns by omega];exact ho4))
    have HB4':=hid hb4;clear ho4 hb4 KPl d0;have HSX:Hid (∀W,Bl W4 W->W.cell? ⟨wr.heap.size,0,none⟩=some (.slice a0 l0 k0)/\W.cell? ⟨wr.heap.size,1,none⟩=some (.slice a1 l1 k1)/\W.cell? ⟨wr.heap.size,2,none⟩=some (.slice a2 l2 k2)):=hid fun W hW=>⟨(HX4.out.below hW).c0,(HX4.out.below hW).c1,(HX4.out.below hW).c2⟩;obtain⟨s0,s1,s2⟩:=HSX.out W4.drew (hbd _);have KV1:=hid (KV.out W4.drew _ (bt HB4'.out (hbd _)) (HI4.out.below (hbd _)));have hs4:W1.heap.size<=W4.heap.size:=bK HB.out.size HB4.out.size;have hlt7:ptl.length<=7:=by have h1:=congrArg List.length HE.out;rw[lM]at h1;have h2:=HPl.out j;omega
    have HTo:Hid (∀W,Bl W4 W->W.ownsRow W1.heap.size 53 3 vp ptl.length (ptl.flatMap tcs)):=hid fun W hW=>qB HTb.out.own (bt HB4.out hW)
    have KPr1:Hid (∀W v,Bl W4 W->W.ownsRow W4.drew.heap.size 3 1 v ns ((shr tb.vs b).map (Value.int .i64))->Cl 59 #[.agg #[.slice a0 l0 k0,.slice a1 l1 k1,.slice a2 l2 k2],v] W fun e w'=>∃(q0:Option Addr) (m0 z0:Nat) (q1:Option Addr) (m1 z1:Nat) (q2:Option Addr) (m2 z2:Nat) (us:List Value),e=.returned (.agg #[.slice q0 m0 z0,.slice q1 m1 z1,.slice q2 m2 z2])/\TWr w' wr.heap.size ⟨.slice q0 m0 z0,.slice q1 m1 z1,.slice q2 m2 z2,us,tv.vs,tv.rows,tv.ws⟩/\Bl W4 w'):=hid fun W v hW hv=>by
     refine(KPr.out W v (bt HB4'.out hW) (qW (by rw[<-HNS.out];exact hv))).mono ?_;rintro e w' ⟨x0,x1,x2,us,rfl,hT,hb'⟩;obtain⟨q0,z0,e0⟩:=qT hT.o0;obtain⟨q1,z1,e1⟩:=qT hT.rq.own;obtain⟨q2,z2,e2⟩:=qT hT.o2;subst e0 e1 e2;exact⟨_,_,_,_,_,_,_,_,_,us,rfl,by rw[HTV.out];exact hT.tw.base (bK HB4.out.size hW.size),bt hW hb'⟩
    clear KV KPr HX4
    go_region_law (first
     |(refine step_append_lies _ (by rfl) _ _ _ (by rfl) W1.heap.size 53 iT (.agg #[.slice none 0 0,.slice none 0 0,.slice none 0 0]) 3 72 Tryz.underlying32 hj hz0 hz1 hz2 rfl (by decide) vp ptl.length _ (by rfl) ((HTo.out _ hq6).alloc _) ⟨w6.heap.size,0,none⟩ 1 1 [.slice q0 m0 z0,.slice q1 m1 z1,.slice q2 m2 z2] (by rfl) (by rfl) (vk _ _ _ _ _) (fun u hu=>by simp at hu;rcases hu with rfl|rfl|rfl <;> rfl) (by decide) (by unfold maxLen;omega) (by omega) (by have:=hq6.size;simp;omega) _ rfl ?_;intro g7 cp7 w7 hown7 hgrow7 hat7 hlt7')
     |(go_simp;go_at_call 60;refine KV1.out.mono ?_;rintro e w5 ⟨v5,rfl,ho5,hb5'⟩;have hq5:Bl W4 w5:=bt (hbd _) hb5';obtain⟨r0,r1,r2⟩:=HSX.out w5 hq5)
     |(go_simp;go_at_call 59;refine(KPr1.out w5 v5 hq5 ho5).mono ?_;rintro e w6 ⟨q0,m0,z0,q1,m1,z1,q2,m2,z2,us6,rfl,hT6,hq6⟩)
     |fail)
    all_goals(
     have HN:Hid (∃ptl',Bl W1 w7/\TBs w7 W1.heap.size (.slice (some ⟨g7,0,none⟩) (ptl.length+1) cp7) ptl'/\ptl'.map tvB=zI (tl.take (j+1)) b):=hid ⟨_,(KD (bt HB.out (bt HB4.out hq6)) _).grown hgrow7 (by have:=hq6.size;simp;omega) (fun q hq=>((HTo.out _ hq6).lt q hq).1),HTb.out.row HB.out.size w6 ⟨.slice q0 m0 z0,.slice q1 m1 z1,.slice q2 m2 z2,us6,tv.vs,tv.rows,tv.ws⟩ _ w7 _ (bt HB4.out hq6) hT6 hgrow7 hown7,by rw[mA,HE.out,HPj.out];rfl⟩)
    all_goals clear HB HTb HE HTo hown7 hgrow7 hat7 hlt7' hT6
    all_goals try simp only[Exit.inBlock,Exit.then]
    all_goals go_wp2_with fail
    all_goals go_roundw
    all_goals first
     |exact⟨j+1,_,by omega,by go_num,rfl,HN⟩
     |(simp[intOf];omega)
   ·obtain rfl:ns=0:=by omega
    rw[show decide (0 < 0)=false from rfl,if_neg (by decide),List.append_nil]at HPj;go_wp2_with (first|(go_at_call 58;refine KPl.out.mono ?_;rintro e W4 ⟨v4,rfl,ho4,hb4⟩;obtain⟨a4,k4,e4⟩:=qT ho4;subst e4;have HB4:=hid (bt HB3.out hb4);clear ho4 hb4 KPl d0)|fail)
    go_roundw
    case rel=>exact⟨j+1,_,by omega,by go_num,rfl,hid ⟨ptl,bt HB.out HB4.out,HTb.out.below HB4.out,by rw[HPj.out];exact HE.out⟩⟩
    case measure=>simp[intOf];omega
  ·obtain rfl:j=n:=by omega
   have i1:¬((j:Int) < (j:Int)):=by omega
   have KJ1:=hid (KJ.out wr vp ptl HB.out HTb.out (HE.out.trans HPn.out));have HX:=hid (HX1.out.below HB.out);obtain⟨av,cv,ev⟩:=qT HTb.out.own;subst ev;clear KJ HTb HE HC HOf HPS HPl HPn HP0 HX1;go_upto_region 10 with (first|(go_at_call 61;refine KJ1.out.mono ?_;rintro e w8 ⟨v8,us8,rfl,hQ8,hb8⟩;obtain⟨a8,k8,e8⟩:=hQ8.sl;subst e8)|fail)
   have HQ8:=hid hQ8;have HX8:=hid (HX.out.below hb8);have HB8:=hid (bt HB.out hb8);have hs8:W1.heap.size<=w8.heap.size:=HB8.out.size;have hs0:wr.heap.size<=w8.heap.size:=hb8.size;have hs1:w.heap.size<=wr.heap.size:=bK HB1.out.size HB.out.size;clear hQ8 hb8 KJ1 HX;have KP1:=hid (KPt.out w8 (.slice a8 BR.length k8) BR.length HB8.out ⟨_,_,rfl⟩ (by have:=HRs.out;omega));obtain⟨nr,hnr⟩:∃nr,nr=BR.length:=⟨_,rfl⟩;have HNR:=hid hnr;rw[<-hnr]at KP1 HQ8 ⊢;clear hnr;go_wp2_with (first|(go_at_call 62;refine KP1.out.mono ?_;rintro e w9 ⟨v0,v2,rfl,ho0,ho2,hap,hb9⟩;obtain⟨q0,z0,e0⟩:=qT ho0;obtain⟨q2,z2,e2⟩:=qT ho2;subst e0 e2;have hX9:=HX8.out.below hb9;have t0:=hX9.c0;have t1:=hX9.c1;have t2:=hX9.c2;have f0:=hX9.free 0;have f1:=hX9.free 1;have f2:=hX9.free 2)|fail)
   have HFin:Hid (∀y0 y1 y2,TW (((w9.setCell ⟨w.heap.size,0,none⟩ y0).setCell ⟨w.heap.size,1,none⟩ y1).setCell ⟨w.heap.size,2,none⟩ y2) w.heap.size (.slice q0 nb z0) (.slice a8 nr k8) (.slice q2 nr z2) us8 b BR (xW BR.length)/\Bl w (((w9.setCell ⟨w.heap.size,0,none⟩ y0).setCell ⟨w.heap.size,1,none⟩ y1).setCell ⟨w.heap.size,2,none⟩ y2)):=hid fun y0 y1 y2=>by
    have hT:TQ w9 w.heap.size (.slice q0 nb z0) (.slice a8 nr k8) (.slice q2 nr z2) us8 b BR (xW BR.length):=by
     refine⟨?_,(HQ8.out.below hb9).base hs1,?_,hap,fun i hi g h1 h2=>?_,fun i hi g h1 h2=>?_⟩
     ·rw[<-HNB.out];exact qF ho0 (bK hs1 hs0)
     ·rw[y7,uj,<-HNR.out];exact qF ho2 (bK hs1 hs0)
     ·have:=((HQ8.out.each i hi).lt g h1).2;have:=(ho0.lt g h2).1;omega
     ·have:=((HQ8.out.each i hi).lt g h1).2;have:=(ho2.lt g h2).1;omega
    exact⟨(((hT.set hX9.typ).set (ql hX9.typ)).set (ql (ql hX9.typ))).tw,(((bt (bt HB1.out HB8.out) hb9).setCell (nR _) _).setCell (nR _) _).setCell (nR _) _⟩
   clear HX8 HQ8 ho0 ho2 hX9 KP1 hb9;refine bodyPost_ret (v:=.tuple #[.agg #[.slice q0 nb z0,.slice a8 nr k8,.slice q2 nr z2],.int .i64 BV]) (by simp[results,Tryz.results32,go_sem,t0,t1,t2]) rfl ?_;exact⟨_,_,_,us8,rfl,(HFin.out _ _ _).1,(HFin.out _ _ _).2⟩
theorem YO(w:World)(vt:Value)(tl:List TbV)(h:ITs w vt tl)(hl:tl.length<=1048576):
 Cl 45 #[vt] w fun e w'=>∃v,e=.returned v/\ISS w' v (tl.map TbV.vs)/\Bl w w':=by
 obtain⟨iS,hj,hy0,hy1,hy2⟩:=info_parts Tryz.infoIS;obtain⟨at',ct,rfl,hc⟩:=h
 have HC:Hid (∀W,Bl w W->∀j,j < tl.length->∃b oo v0,at'=some ⟨b,oo,none⟩/\TabAt W b (oo+j*3) (tl.getD j qA)/\W.cell? ⟨b,oo+j*3,none⟩=some v0/\IS w v0 (tl.getD j qA).vs):=hid fun W hW j hj=>by
  rcases hc with h0|⟨b,oo,rfl,h⟩
  ·omega
  ·obtain⟨v0,v1,v2,c0,c1,c2,hI⟩:=h j hj;exact⟨b,oo,v0,rfl,(h j hj).below hW,zy hW c0,hI.vs⟩
 have HE:Hid (∀(W:World) (v:Value) (us:List Value),Bl w W->W.ownsRow w.heap.size 24 1 v tl.length us->(∀i,i < tl.length->IS w (us.getD i undef) (tl.getD i qA).vs)->ISS W v (tl.map TbV.vs)):=hid fun W v us hW ho hu=>by
  have eg:∀i,i < tl.length->(tl.map TbV.vs).getD i []=(tl.getD i qA).vs:=fun i hi=>by rw[gD,bJ,gD,gE hi];rfl
  have hln:=ho.1;rcases ho.2 with ⟨rfl,hn⟩|⟨g,cap,cur,rfl,hb',hh,hn,-,-,ht⟩
  ·exact⟨none,0,by rw[lM,hn],Or.inl (by rw[lM];exact hn)⟩
  ·refine⟨_,cap,by rw[lM],Or.inr ⟨g,0,rfl,fun j hj=>?_⟩⟩;rw[lM]at hj;refine⟨us.getD j undef,?_,by rw[eg j hj];exact(hu j hj).below hW⟩;rw[Nat.zero_add,cell_of_row _ _ _ _ _ _ hh,<-Array.getElem?_toList,<-List.getElem?_take_of_lt (by omega:j < tl.length*1),ht,gD,gE (by omega)];rfl
 obtain⟨n,hn⟩:∃n,n=tl.length:=⟨_,rfl⟩;rw[<-hn]at hl HC HE ⊢;clear hn hc;obtain⟨W1,hW1⟩:∃W1,W1=w.alloc (.cells #[] 24):=⟨_,rfl⟩
 have HS1:Hid (Bl w W1/\W1.ownsRow w.heap.size 24 1 (.slice (some ⟨w.heap.size,0,none⟩) 0 0) 0 []):=hid (by
  rw[hW1];exact⟨(bI _ _).alloc (nR _) _,oM w #[] 0 (nR _) (by decide) rfl⟩)
 go_enter Tryz.func45,Tryz.ntmps45
 go_upto_region 2 with fail
 rw[<-hW1];clear hW1;go_wp2_with fail
 go_loopw [3,9] (fun u t wr=>∃(j:Nat) (vv:Value),j<=n/\t=.int .i64 j/\vv=u/\Hid (∃us,Bl w wr/\wr.ownsRow w.heap.size 24 1 vv j us/\∀i,i < j->IS w (us.getD i undef) (tl.getD i qA).vs)) (fun _ t _=>n - (intOf t).toNat)
 case atStart=>exact⟨0,_,nZ _,rfl,rfl,hid ⟨[],HS1.out.1,HS1.out.2,fun i hi=>by omega⟩⟩
 case round=>
  clear HS1;obtain⟨j,vv,hjn,rfl,rfl,HT⟩:=hrel;obtain⟨us,hB,hO,hU⟩:=HT.out;have HB:=hid hB;have HO:=hid hO;have HU:=hid hU;clear HT hB hO hU;by_cases hlt:j < n
  ·have i1:(j:Int) < (n:Int):=by omega
   obtain⟨b,oo,v0',ea,⟨v0,v1,v2,c0,c1,c2,hI⟩,c0',hIv⟩:=HC.out wr HB.out j hlt;subst ea;obtain rfl:v0'=v0:=by rw[c0]at c0';exact(Option.some.inj c0').symm
   obtain⟨a0,k0,e0,-⟩:=hI.vs;obtain⟨a1,k1,e1,-⟩:=hI.rows;obtain⟨a2,k2,e2,-⟩:=hI.ws;subst e0 e1 e2;have HIv:=hid hIv;clear c0' hI hIv;generalize (tl.getD j qA).rows.length=nr at *;generalize (tl.getD j qA).ws.length=n2 at *;obtain⟨W3,hW3⟩:∃W3,W3=wr.alloc (.cells #[.slice a0 (tl.getD j qA).vs.length k0,.slice a1 nr k1,.slice a2 n2 k2] 53):=⟨_,rfl⟩;have hB3:Bl wr W3:=by rw[hW3];exact(bI _ _).alloc (nR _) _
   have d0:W3.cell? ⟨wr.heap.size,0,none⟩=some (.slice a0 (tl.getD j qA).vs.length k0):=by rw[hW3,cA _ _ _ _ rfl];rfl
   have HB3:=hid (bt HB.out hB3);have HO3:=hid (qB HO.out hB3);have hs3:=HB3.out.size;clear hB3;have hlu:us.length=j:=by have:=HO.out.1;omega
   have HLU:=hid hlu;clear hlu;obtain⟨nv,hnv⟩:∃nv,nv=(tl.getD j qA).vs.length:=⟨_,rfl⟩;rw[<-hnv]at c0 d0 hW3;have HIv2:Hid (IS w (.slice a0 nv k0) (tl.getD j qA).vs):=hid (by rw[hnv];exact HIv.out);clear hnv HIv;go_upto_region 5 with fail
   rw[<-hW3];clear hW3 c0 c1 c2;go_wp2_with (first|(at_builtin;refine wpList_append_lies _ rfl _ _ 23 rfl w.heap.size 24 iS (.slice none 0 0) 1 24 Tryz.underlying23 hj hy0 hy1 hy2 rfl (by decide) vv _ us rfl (HO3.out.alloc _) ⟨_,0,none⟩ 1 1 [.slice a0 nv k0] rfl rfl (qH _ _ _) (fun u hu=>by simp at hu;subst hu;rfl) (by decide) (by unfold maxLen;omega) (by omega) (by simp;omega) _ rfl ?_;intro g6 cp6 w6 hown6 hgrow6 hat6 hlt6)|fail)
   have HN:Hid (∃us',Bl w w6/\w6.ownsRow w.heap.size 24 1 (.slice (some ⟨g6,0,none⟩) (j+1) cp6) (j+1) us'/\∀i,i < j+1->IS w (us'.getD i undef) (tl.getD i qA).vs):=hid ⟨us++[.slice a0 nv k0],(HB3.out.alloc hs3 _).grown hgrow6 (by simp;omega) (fun q hq=>(HO3.out.lt q hq).1),hown6,fun i hi=>by
    by_cases e:i < j
    ·rw[gD,aL (by rw[HLU.out];exact e),<-gD];exact HU.out i e
    ·obtain rfl:i=j:=by omega
     rw[gD,bN (by rw[HLU.out];exact nR _),HLU.out,Nat.sub_self];exact HIv2.out⟩
   clear hown6 hgrow6 hat6 hlt6 HB3 HO3;go_roundw
   case rel=>exact⟨j+1,_,by omega,by go_num,rfl,HN⟩
   case measure=>simp[intOf];omega
  ·obtain rfl:j=n:=by omega
   have i1:¬((j:Int) < (j:Int)):=by omega
   have HF:=hid (HE.out wr vv us HB.out HO.out HU.out);clear HC HE HO HU;go_wp2_with fail
   go_ret;exact⟨vv,rfl,HF.out,HB.out⟩
theorem Yz(w:World)(n:Nat)(hn:n<=100000):
 Cl 23 #[.int .i64 n] w fun e w'=>∃v,e=.returned v/\w'.ownsRow w.heap.size 3 1 v n (List.replicate n (.int .i64 1))/\Bl w w':=by
 obtain⟨i0,hi,hz0,hz1,hz2⟩:=info_parts Tryz.infoInt;obtain⟨W1,hW1⟩:∃W1,W1=w.alloc (.cells #[] 3):=⟨_,rfl⟩
 have HS1:Hid (Bl w W1/\W1.ownsRow w.heap.size 3 1 (.slice (some ⟨w.heap.size,0,none⟩) 0 0) 0 []):=hid (by
  rw[hW1];exact⟨(bI _ _).alloc (nR _) _,oM w #[] 0 (nR _) (by decide) rfl⟩)
 go_enter Tryz.func23,Tryz.ntmps23
 go_upto_region 2 with fail
 rw[<-hW1];clear hW1;go_wp2_with fail
 go_loopw [3,4] (fun u t wr=>∃(j:Nat) (vv:Value),j<=n/\t=.int .i64 j/\vv=u/\Hid (Bl w wr/\wr.ownsRow w.heap.size 3 1 vv j (List.replicate j (.int .i64 1)))) (fun _ t _=>n - (intOf t).toNat)
 case atStart=>exact⟨0,_,nZ _,rfl,rfl,hid ⟨HS1.out.1,HS1.out.2⟩⟩
 case round=>
  clear HS1;obtain⟨j,vv,hjn,rfl,rfl,HT⟩:=hrel;by_cases hlt:j < n
  ·have i1:(j:Int) < (n:Int):=by omega
   have hs:=HT.out.1.size;go_wp2_with (first|(at_builtin;refine wpList_append_lies _ rfl _ _ 24 rfl w.heap.size 3 i0 (.int .i64 0) 1 8 Tryz.underlying24 hi hz0 hz1 hz2 rfl (by decide) vv _ _ rfl (HT.out.2.alloc _) ⟨_,0,none⟩ 1 1 [.int .i64 1] rfl rfl (qH _ _ _) (fun u hu=>by simp at hu;subst hu;rfl) (by decide) (by unfold maxLen;omega) (by omega) (by simp;omega) _ rfl ?_;intro g6 cp6 w6 hown6 hgrow6 hat6 hlt6)|fail)
   have HN:Hid (Bl w w6/\w6.ownsRow w.heap.size 3 1 (.slice (some ⟨g6,0,none⟩) (j+1) cp6) (j+1) (List.replicate (j+1) (.int .i64 1))):=hid ⟨(HT.out.1.alloc hs _).grown hgrow6 (by simp;omega) (fun q hq=>(HT.out.2.lt q hq).1),by rw[List.replicate_succ'];exact hown6⟩;clear hown6 hgrow6 hat6 hlt6 HT;go_wp2_with fail
   go_roundw
   case rel=>exact⟨j+1,_,by omega,by go_num,rfl,HN⟩
   case measure=>simp[intOf];omega
  ·obtain rfl:j=n:=by omega
   have i1:¬((j:Int) < (j:Int)):=by omega
   go_wp2_with fail
   go_ret;exact⟨vv,rfl,HT.out.2,HT.out.1⟩
structure PX(ty:TypeId)(W:World)(p:Nat)(v0 v1 v2 v3:Value)(x y:Int):Prop where
 blk:W.heap[p]?=some (.cells #[v0,v1,v2,v3,.int .i64 x,.int .i64 y] ty (0,0))
section
variable {ty:TypeId} {W W':World} {p:Nat} {v0 v1 v2 v3:Value} {x y:Int}
theorem PX.lt(h:PX ty W p v0 v1 v2 v3 x y):p < W.heap.size:=by
 rcases Nat.lt_or_ge p W.heap.size with h1|h1
 ·exact h1
 ·have:=h.blk;rw[Array.getElem?_eq_none h1]at this;cases this
theorem PX.below(h:PX ty W p v0 v1 v2 v3 x y)(hb:Bl W W'):PX ty W' p v0 v1 v2 v3 x y:=⟨(hb.block p h.lt).trans h.blk⟩
theorem PX.six(h:PX ty W p v0 v1 v2 v3 x y):W.cell? ⟨p,0,none⟩=some v0/\W.cell? ⟨p,1,none⟩=some v1/\W.cell? ⟨p,2,none⟩=some v2/\W.cell? ⟨p,3,none⟩=some v3/\W.cell? ⟨p,4,none⟩=some (.int .i64 x)/\W.cell? ⟨p,5,none⟩=some (.int .i64 y):=by
 refine⟨?_,?_,?_,?_,?_,?_⟩ <;> (rw[cell_of_row _ _ _ _ _ _ h.blk];rfl)
theorem PX.made(ty:TypeId)(W:World)(v0 v1 v2 v3:Value)(x y:Int):PX ty (W.alloc (.cells #[v0,v1,v2,v3,.int .i64 x,.int .i64 y] ty)) W.heap.size v0 v1 v2 v3 x y:=⟨heap_alloc_new _ _⟩
end
theorem Jh(hl:tl.length<=1048576)(hs:∀t∈tl,TvS t):qQ (tl.map TbV.vs):=⟨by rw[lM];omega,fun j=>by
 rw[gD,bJ];cases e:tl[j]? with
 |none=>exact nZ _
 |some t=>exact(hs t (List.mem_of_getElem? e)).vs⟩
theorem YP(w:World)(vt v0 v1 v2 v3:Value)(k x y:Int)(tl:List TbV)(bs:List (List Int))(ps hs:List Int)(ws:List (Int×Int))(h:ITs w vt tl)(hl:tl.length<=1048576)(hs':∀t∈tl,TvS t)(hp:IPl w v0 v1 v2 v3 bs ps hs ws)(hbs:qQ bs):
 Cl 19 #[.int .i64 k,vt,.agg #[v0,v1,v2,v3,.int .i64 x,.int .i64 y]] w fun e w'=>e=.returned (.bool (zv k tl bs ps hs ws (x,y)))/\Bl w w':=by
 have hbd:∀W:World,Bl W W.drew:=fun W=>(bI _ _).drew;have KE:Hid (∀W,Bl w W->Cl 45 #[vt] W fun e w'=>∃v,e=.returned v/\ISS w' v (tl.map TbV.vs)/\Bl W w'):=hid fun W hW=>YO W vt tl (h.below hW) hl;have KP:Hid (∀W v,Bl w W->ISS W v (tl.map TbV.vs)->Cl 44 #[.int .i64 k,v,.agg #[v0,v1,v2,v3,.int .i64 x,.int .i64 y]] W fun e w'=>e=.returned (.bool (zo k (tl.map TbV.vs) bs ps hs ws (x,y)))/\Bl W w'):=hid fun W v hW hv=>Yk W v0 v1 v2 v3 v k x y _ bs ps hs ws hv (Jh hl hs') (hp.below hW).b hbs (hp.below hW).p (hp.below hW).h (hp.below hW).d;obtain⟨a0,k0,rfl,-⟩:=hp.b;obtain⟨a1,k1,rfl,-⟩:=hp.p;obtain⟨a2,k2,rfl,-⟩:=hp.h;obtain⟨a3,k3,rfl,-⟩:=hp.d;clear hp hbs;obtain⟨at',ct,rfl,hc⟩:=h
 have HC:Hid (∀W,Bl w W->∀j,j < tl.length->∃b oo,at'=some ⟨b,oo,none⟩/\TabAt W b (oo+j*3) (tl.getD j qA)):=hid fun W hW j hj=>by
  rcases hc with h0|⟨b,oo,rfl,h⟩
  ·omega
  ·exact⟨b,oo,rfl,(h j hj).below hW⟩
 have HR:Hid (∀j,j < tl.length->TvS (tl.getD j qA)):=hid fun j hj=>hs' _ (by rw[gD,gE hj];exact gM _);obtain⟨pl,hpl⟩:∃r,r=zo k (tl.map TbV.vs) bs ps hs ws (x,y):=⟨_,rfl⟩;obtain⟨res,hres⟩:∃r,r=zv k tl bs ps hs ws (x,y):=⟨_,rfl⟩
 have HA:Hid (∀j,j < tl.length->qc (tl.getD j qA)=false->res=false):=hid fun j hj e=>by
  have:tl.all qc=false:=by
   rw[List.all_eq_false];exact⟨_,by rw[gD,gE hj]at e;exact gM hj,by rw[gD,gE hj]at e;simp only[Option.getD_some]at e;rw[e];simp⟩
  rw[hres];unfold zv;rw[this,Bool.false_and]
 have HAll:Hid ((∀i,i < tl.length->qc (tl.getD i qA)=true)->res=pl):=hid fun h=>by
  have:tl.all qc=true:=by
   rw[aT];intro t ht;obtain⟨i,hi,rfl⟩:=gO ht;have:=h i hi;rw[gD,gE hi]at this;exact this
  rw[hres,hpl];unfold zv;rw[this,Bool.true_and]
 rw[<-hpl]at KP;rw[<-hres];clear hres hs' hpl;obtain⟨n,hn⟩:∃n,n=tl.length:=⟨_,rfl⟩;rw[<-hn]at hl HC HR HA HAll KE ⊢;clear hn hc;generalize bs.length=nb at *;generalize ps.length=np at *;generalize hs.length=nh at *;generalize ws.length=nw at *;obtain⟨W1,hW1⟩:∃W1,W1=w.alloc (.cells #[.slice a0 nb k0,.slice a1 np k1,.slice a2 nh k2,.slice a3 nw k3,.int .i64 x,.int .i64 y] 39):=⟨_,rfl⟩;have HX1:Hid (PX 39 W1 w.heap.size (.slice a0 nb k0) (.slice a1 np k1) (.slice a2 nh k2) (.slice a3 nw k3) x y):=hid (by rw[hW1];exact PX.made _ _ _ _ _ _ _ _);have HB1:Hid (Bl w W1):=hid (by rw[hW1];exact(bI _ _).alloc (nR _) _);go_enter Tryz.func19,Tryz.ntmps19
 go_upto_region 1 with fail
 rw[<-hW1];clear hW1;go_wp2_with fail
 go_loopw [11] (fun t wr=>∃(j:Nat),j<=n/\t=.int .i64 j/\Hid ((∀i,i < j->qc (tl.getD i qA)=true)/\Bl W1 wr)) (fun t _=>n - (intOf t).toNat)
 case atStart=>exact⟨0,nZ _,rfl,hid ⟨fun i hi=>by omega,bI _ _⟩⟩
 case round=>
  obtain⟨j,hjn,rfl,HT⟩:=hrel;have HBw:=hid (bt HB1.out HT.out.2);by_cases hlt:j < n
  ·have i1:(j:Int) < (n:Int):=by omega
   obtain⟨b,oo,ea,v0,v1,v2,c0,c1,c2,hI⟩:=HC.out wr HBw.out j hlt;subst ea;have HTs:=hid (HR.out j hlt);have HAj:=hid (HA.out j hlt);obtain⟨W3,hW3⟩:∃W3,W3=wr.alloc (.cells #[v0,v1,v2] 53):=⟨_,rfl⟩;have hB3:Bl wr W3:=by rw[hW3];exact(bI _ _).alloc (nR _) _
   have HX3:Hid (TX W3 wr.heap.size v0 v1 v2):=hid (by rw[hW3];exact TX.made _ _ _ _);have KT:=hid (Xr W3 v0 v1 v2 _ _ _ (hI.below hB3) HTs.out.vs HTs.out.rows);have HB3:=hid (bt HT.out.2 hB3);have HP:=hid HT.out.1;obtain⟨a0',k0',e0,-⟩:=hI.vs;obtain⟨a1',k1',e1,-⟩:=hI.rows;obtain⟨a2',k2',e2,-⟩:=hI.ws;subst e0 e1 e2;have ey:zE (tl.getD j qA).vs (tl.getD j qA).rows (tl.getD j qA).ws=qc (tl.getD j qA):=rfl;rw[ey]at KT
   have HPj:Hid (qc (tl.getD j qA)=true->∀i,i < j+1->qc (tl.getD i qA)=true):=hid fun hy i hi=>by
    by_cases e:i=j
    ·rw[e];exact hy
    ·exact HP.out i (by omega)
   generalize qc (tl.getD j qA)=y at KT HAj HPj;generalize (tl.getD j qA).rows.length=nr at *;generalize (tl.getD j qA).vs.length=n0 at *;generalize (tl.getD j qA).ws.length=n2 at *;clear hB3 hI HT ey HTs;have d0:=HX3.out.c0;have d1:=HX3.out.c1;have d2:=HX3.out.c2;go_upto_region 4 with fail
   rw[<-hW3];clear hW3 c0 c1 c2;cases y
   ·have HNo:=hid (HAj.out rfl);go_wp2_with (first|(go_at_call 43;refine KT.out.mono ?_;rintro e w4 ⟨rfl,hb4⟩)|fail)
    go_ret;exact⟨by rw[HNo.out];rfl,bt (bt HB1.out HB3.out) hb4⟩
   ·go_wp2_with (first|(go_at_call 43;refine KT.out.mono ?_;rintro e w4 ⟨rfl,hb4⟩)|fail)
    go_roundw
    case rel=>exact⟨j+1,by omega,by go_num,hid ⟨HPj.out (by first|rfl|trivial),bt HB3.out hb4⟩⟩
    case measure=>simp[intOf];omega
  ·obtain rfl:j=n:=by omega
   have i1:¬((j:Int) < (j:Int)):=by omega
   have HRes:=hid (HAll.out HT.out.1);have HXr:=hid (HX1.out.below HT.out.2);clear HT HC HR HA HAll;have HSX:Hid (∀W,Bl wr W->W.cell? ⟨w.heap.size,0,none⟩=some (.slice a0 nb k0)/\W.cell? ⟨w.heap.size,1,none⟩=some (.slice a1 np k1)/\W.cell? ⟨w.heap.size,2,none⟩=some (.slice a2 nh k2)/\W.cell? ⟨w.heap.size,3,none⟩=some (.slice a3 nw k3)/\W.cell? ⟨w.heap.size,4,none⟩=some (.int .i64 x)/\W.cell? ⟨w.heap.size,5,none⟩=some (.int .i64 y)):=hid fun W hW=>(HXr.out.below hW).six;obtain⟨s0,s1,s2,s3,s4,s5⟩:=HSX.out wr.drew (hbd _);have KE1:=hid (KE.out wr.drew (bt HBw.out (hbd _)));clear KE;go_upto_region 7 with fail
   go_region_law (first
    |(go_simp;go_at_call 45;refine KE1.out.mono ?_;rintro e w2 ⟨v2,rfl,hv2,hb2'⟩;have hb2:Bl wr w2:=bt (hbd _) hb2';obtain⟨r0,r1,r2,r3,r4,r5⟩:=HSX.out w2 hb2)
    |(go_simp;go_at_call 44;refine(KP.out w2 v2 (bt HBw.out hb2) hv2).mono ?_;rintro e w3 ⟨rfl,hb3⟩)
    |fail)
   all_goals go_wp2_with fail
   all_goals go_ret
   all_goals exact⟨by first|(rw[HRes.out];rfl)|(rw[HRes.out];done)|rw[HRes.out],bt (bt HBw.out hb2) hb3⟩
theorem Yx(W:World)(B:Nat)(h:B<=W.heap.size):TBs (W.alloc (.cells #[] 53)) B (.slice (some ⟨W.heap.size,0,none⟩) 0 0) []:=⟨oM W #[] 0 h (by decide) rfl,fun t ht=>by simp at ht,List.Pairwise.nil⟩
theorem KG(w:World)(vt v0 v1 v2 v3:Value)(k x y:Int)(tl:List TbV)(bs:List (List Int))(ps hs:List Int)(ws:List (Int×Int))(h:ITs w vt tl)(hl:tl.length<=1048576)(hs':∀t∈tl,TvS t)(hp:IPl w v0 v1 v2 v3 bs ps hs ws)(hbs:qQ bs)(hps:ps.length<=1099511627776):
 Cl 9 #[.int .i64 k,vt,.agg #[v0,v1,v2,v3,.int .i64 x,.int .i64 y]] w fun e w'=>∃v rl,e=.returned (.tuple #[v,.int .i64 (xU k tl bs ps hs ws (x,y))])/\TBs w' w.heap.size v rl/\rl.map tvB=zZ k tl bs ps hs ws (x,y)/\Bl w w':=by
 obtain⟨iT,hj,hz0,hz1,hz2⟩:=info_parts Tryz.infoTb;have hmix:Tryz.prog.follows .mixedOrders=true:=by kernel_rfl
 have hbd:∀W:World,Bl W W.drew:=fun W=>(bI _ _).drew;have KA:Hid (∀W,Bl w W->Cl 29 #[vt] W fun e w'=>e=.returned (.bool (tl.all qc))/\Bl W w'):=hid fun W hW=>uf W vt tl (h.below hW) (by omega) hs';have KE:Hid (∀W,Bl w W->Cl 31 #[vt] W fun e w'=>∃v,e=.returned v/\ISS w' v (tl.map TbV.vs)/\Bl W w'):=hid fun W hW=>j7 W vt tl (h.below hW) hl;have KP:Hid (∀W v,Bl w W->ISS W v (tl.map TbV.vs)->Cl 30 #[.int .i64 k,v,.agg #[v0,v1,v2,v3,.int .i64 x,.int .i64 y]] W fun e w'=>e=.returned (.bool (zo k (tl.map TbV.vs) bs ps hs ws (x,y)))/\Bl W w'):=hid fun W v hW hv=>UM W v0 v1 v2 v3 v k x y _ bs ps hs ws hv (Jh hl hs') (hp.below hW).b hbs (hp.below hW).p hps (hp.below hW).h (hp.below hW).d
 have KB:Hid (zv k tl bs ps hs ws (x,y)=true->∀W vb j,Bl w W->j < bs.length->IS W vb (bs.getD j [])->Cl 32 #[vb,vt] W fun e w'=>∃(q0:Option Addr) (m0 z0:Nat) (q1:Option Addr) (m1 z1:Nat) (q2:Option Addr) (m2 z2:Nat) (us:List Value),e=.returned (.tuple #[.agg #[.slice q0 m0 z0,.slice q1 m1 z1,.slice q2 m2 z2],.int .i64 (bgV tl (bs.getD j []))])/\TWr w' W.heap.size ⟨.slice q0 m0 z0,.slice q1 m1 z1,.slice q2 m2 z2,us,(bgT tl (bs.getD j [])).vs,(bgT tl (bs.getD j [])).rows,(bgT tl (bs.getD j [])).ws⟩/\Bl W w'):=hid fun hr W vb j hW hj hb=>by
  obtain⟨r1,r2,r3,r4,r5⟩:=xx hr;refine(XB W vb vt _ tl hb (h.below hW) (r5 j hj).2 r4 (fun t ht=>aT.1 r1 t ht)).mono ?_;rintro e w' ⟨x0,x1,x2,us,rfl,hT,hb'⟩;obtain⟨q0,z0,e0⟩:=qT hT.o0;obtain⟨q1,z1,e1⟩:=qT hT.rq.own;obtain⟨q2,z2,e2⟩:=qT hT.o2;subst e0 e1 e2;exact⟨_,_,_,_,_,_,_,_,_,us,rfl,hT,hb'⟩
 have HCB:Hid (∀W,Bl w W->∀j,j < bs.length->∃(a:Option Addr) (b o:Nat) (u:Value) (cap:Nat),v0=.slice a bs.length cap/\a=some ⟨b,o,none⟩/\W.cell? ⟨b,o+j,none⟩=some u/\IS W u (bs.getD j [])):=hid fun W hW j hj=>by
  obtain⟨a,cap,e,hh⟩:=(hp.below hW).b;rcases hh with h0|⟨b,o,ea,hh⟩
  ·omega
  ·obtain⟨u,h1,h2⟩:=hh j hj;exact⟨a,b,o,u,cap,e,ea,h1,h2⟩
 have HRd:Hid (zv k tl bs ps hs ws (x,y)=(tl.all qc&&zo k (tl.map TbV.vs) bs ps hs ws (x,y))):=hid rfl;have HNo:Hid (zv k tl bs ps hs ws (x,y)=false->zZ k tl bs ps hs ws (x,y)=[]/\xU k tl bs ps hs ws (x,y)=-1):=hid qCi;have HNeg:Hid (∀j,j < bs.length->bgV tl (bs.getD j []) < 0->zZ k tl bs ps hs ws (x,y)=[]/\xU k tl bs ps hs ws (x,y)=-1):=hid fun j hj hn=>qAb hj hn;have HYes:Hid (zv k tl bs ps hs ws (x,y)=true->(∀i,i < bs.length->0<=bgV tl (bs.getD i []))->zZ k tl bs ps hs ws (x,y)=bs.map (bgT tl)/\xU k tl bs ps hs ws (x,y)=zl tl bs bs.length):=hid qAc;have HN12:Hid (zv k tl bs ps hs ws (x,y)=true->bs.length<=12):=hid fun hr=>(xx hr).2.2.1;have HSu:Hid (∀j,j < bs.length->zl tl bs (j+1)=zl tl bs j+bgV tl (bs.getD j [])):=hid fun j hj=>kI hj;have HSl:Hid (∀j,j<=bs.length->-1*(j:Int)<=zl tl bs j/\zl tl bs j<=60000*(j:Int)):=hid (XF tl bs);have HSv:Hid (∀b,-1<=bgV tl b/\bgV tl b<=60000):=hid fun b=>⟨XE,XD⟩;have HMt:Hid (∀j,j < bs.length->(bs.take (j+1)).map (bgT tl)=(bs.take j).map (bgT tl)++[bgT tl (bs.getD j [])]):=hid fun j hj=>Xu hj;have HMn:Hid ((bs.take bs.length).map (bgT tl)=bs.map (bgT tl)):=hid (by rw[tL]);obtain⟨a0,k0,rfl,-⟩:=hp.b;obtain⟨a1,k1,rfl,-⟩:=hp.p;obtain⟨a2,k2,rfl,-⟩:=hp.h;obtain⟨a3,k3,rfl,-⟩:=hp.d;clear hp hbs hs' hps;obtain⟨at',ct,rfl,-⟩:=h;generalize zo k (tl.map TbV.vs) bs ps hs ws (x,y)=PL at *;generalize zv k tl bs ps hs ws (x,y)=RD at *;generalize zZ k tl bs ps hs ws (x,y)=GT at *;generalize xU k tl bs ps hs ws (x,y)=GV at *;generalize tl.length=n at *;obtain⟨nb,hnb⟩:∃nb,nb=bs.length:=⟨_,rfl⟩;rw[<-hnb]at KP KB HCB HNeg HYes HN12 HSu HSl HMt HMn ⊢;clear hnb;generalize ps.length=np at *;generalize hs.length=nh at *;generalize ws.length=nw at *;obtain⟨W1,hW1⟩:∃W1,W1=w.alloc (.cells #[.slice a0 nb k0,.slice a1 np k1,.slice a2 nh k2,.slice a3 nw k3,.int .i64 x,.int .i64 y] 39):=⟨_,rfl⟩;have HX1:Hid (PX 39 W1 w.heap.size (.slice a0 nb k0) (.slice a1 np k1) (.slice a2 nh k2) (.slice a3 nw k3) x y):=hid (by rw[hW1];exact PX.made _ _ _ _ _ _ _ _);have HB1:Hid (Bl w W1):=hid (by rw[hW1];exact(bI _ _).alloc (nR _) _);have HSX:Hid (∀W,Bl W1 W->W.cell? ⟨w.heap.size,0,none⟩=some (.slice a0 nb k0)/\W.cell? ⟨w.heap.size,1,none⟩=some (.slice a1 np k1)/\W.cell? ⟨w.heap.size,2,none⟩=some (.slice a2 nh k2)/\W.cell? ⟨w.heap.size,3,none⟩=some (.slice a3 nw k3)/\W.cell? ⟨w.heap.size,4,none⟩=some (.int .i64 x)/\W.cell? ⟨w.heap.size,5,none⟩=some (.int .i64 y)):=hid fun W hW=>(HX1.out.below hW).six;obtain⟨s0,s1,s2,s3,s4,s5⟩:=HSX.out W1.drew (hbd _);have KA1:=hid (KA.out W1.drew (bt HB1.out (hbd _)));have HEnd:Hid (∀W,Bl w W->GT=[]/\GV=-1->∃v rl,Ending.returned (.tuple #[.slice (some ⟨W.heap.size,0,none⟩) 0 0,.int .i64 (-1)])=.returned (.tuple #[v,.int .i64 GV])/\TBs (W.alloc (.cells #[] 53)) w.heap.size v rl/\rl.map tvB=GT/\Bl w (W.alloc (.cells #[] 53))):=hid fun W hW hg=>⟨_,[],by rw[hg.2],Yx W _ hW.size,by rw[hg.1];rfl,KD hW _⟩;clear KA HX1;cases hA:tl.all qc with
 |false=>
  rw[hA]at KA1 HRd;have HG:=hid (HNo.out HRd.out);clear HNo HRd hA KB KP KE HNeg HYes HN12;go_enter Tryz.func9,Tryz.ntmps9
  go_upto_region 1 with fail
  rw[<-hW1];clear hW1
  first|go_region_law (first
   |(go_simp;go_at_call 29;refine KA1.out.mono ?_;rintro e w2 ⟨rfl,hb2'⟩;have hb2:Bl W1 w2:=bt (hbd _) hb2';obtain⟨r0,r1,r2,r3,r4,r5⟩:=HSX.out w2 hb2)
   |fail)|fail
  all_goals go_wp2_with fail
  all_goals go_ret2
  all_goals exact HEnd.out _ (bt HB1.out hb2) HG.out
 |true=>
  rw[hA]at KA1 HRd;rw[Bool.true_and]at HRd;have HRP:=hid HRd.out;clear hA HRd;cases PL with
  |false=>
   have HG:=hid (HNo.out HRP.out);clear HNo HRP KB HNeg HYes HN12;go_enter Tryz.func9,Tryz.ntmps9
   go_upto_region 1 with fail
   rw[<-hW1];clear hW1
   go_region_law (first
    |(go_simp;go_at_call 29;refine KA1.out.mono ?_;rintro e w2 ⟨rfl,hb2'⟩;have hb2:Bl W1 w2:=bt (hbd _) hb2';obtain⟨r0,r1,r2,r3,r4,r5⟩:=HSX.out w2 hb2)
    |(go_simp;go_at_call 31;refine(KE.out w2 (bt HB1.out hb2)).mono ?_;rintro e w3 ⟨v3,rfl,hv3,hb3'⟩;have hb3:Bl W1 w3:=bt hb2 hb3';obtain⟨t0,t1,t2,t3,t4,t5⟩:=HSX.out w3 hb3)
    |(go_simp;go_at_call 30;refine(KP.out w3 v3 (bt HB1.out hb3) hv3).mono ?_;rintro e w4 ⟨rfl,hb4'⟩;have hb4:Bl W1 w4:=bt hb3 hb4')
    |fail)
   all_goals go_wp2_with fail
   all_goals go_ret2
   all_goals exact HEnd.out _ (bt HB1.out hb4) HG.out
  |true=>
   have HKB:=hid (KB.out HRP.out);have HYs:=hid (HYes.out HRP.out);have h12:=HN12.out HRP.out;clear HNo KB HYes HN12 HRP;go_enter Tryz.func9,Tryz.ntmps9
   go_upto_region 1 with fail
   rw[<-hW1];clear hW1;go_cut [24] from 14 to 23 (fun v wx=>v=.bool false/\Hid (Bl W1 wx))
   case first=>
    go_region_law (first
     |(go_simp;go_at_call 29;refine KA1.out.mono ?_;rintro e w2 ⟨rfl,hb2'⟩;have hb2:Bl W1 w2:=bt (hbd _) hb2';obtain⟨r0,r1,r2,r3,r4,r5⟩:=HSX.out w2 hb2)
     |(go_simp;go_at_call 31;refine(KE.out w2 (bt HB1.out hb2)).mono ?_;rintro e w3 ⟨v3,rfl,hv3,hb3'⟩;have hb3:Bl W1 w3:=bt hb2 hb3';obtain⟨t0,t1,t2,t3,t4,t5⟩:=HSX.out w3 hb3)
     |(go_simp;go_at_call 30;refine(KP.out w3 v3 (bt HB1.out hb3) hv3).mono ?_;rintro e w4 ⟨rfl,hb4'⟩;have hb4:Bl W1 w4:=bt hb3 hb4')
     |fail)
    all_goals(go_wp2_with fail;go_meet)
    all_goals exact⟨rfl,hid hb4⟩
   case rest=>
   obtain⟨rfl,HC4⟩:=hcut;generalize wc=w4 at *;have HB4:=hid (bt HB1.out HC4.out);have HX4:Hid (∀W,Bl w4 W->W.cell? ⟨w.heap.size,0,none⟩=some (.slice a0 nb k0)):=hid fun W hW=>(HSX.out W (bt HC4.out hW)).1;clear KA1 KE KP HC4 s0 s1 s2 s3 s4 s5 HSX;have s4:w.heap.size<=w4.heap.size:=HB4.out.size;obtain⟨W5,hW5⟩:∃W5,W5=w4.alloc (.cells #[] 53):=⟨_,rfl⟩;have HS5:Hid (Bl w4 W5/\TBs W5 w4.heap.size (.slice (some ⟨w4.heap.size,0,none⟩) 0 0) []):=hid (by rw[hW5];exact⟨(bI _ _).alloc (nR _) _,Yx w4 _ (nR _)⟩);have c5:=HX4.out W5 HS5.out.1;go_upto_region 4 with fail
   rw[<-hW5];clear hW5;go_wp2_with fail
   clear c5;have HZ0:Hid ((0:Int)=zl tl bs 0):=hid rfl;go_loopw [8,9,30] (fun v8 v9 t wr=>∃(j:Nat) (vj:Value) (z:Int),j<=nb/\t=.int .i64 j/\vj=v8/\v9=.int .i64 z/\Hid (z=zl tl bs j/\(∃rl,Bl w4 wr/\TBs wr w4.heap.size vj rl/\rl.map tvB=(bs.take j).map (bgT tl))/\∀i,i < j->0<=bgV tl (bs.getD i []))) (fun _ _ t _=>nb - (intOf t).toNat)
   case atStart=>exact⟨0,_,0,nZ _,rfl,rfl,rfl,hid ⟨HZ0.out,⟨[],HS5.out.1,HS5.out.2,rfl⟩,fun i hi=>by omega⟩⟩
   case round=>
    clear HS5 HZ0;obtain⟨j,vj,z,hjn,rfl,rfl,rfl,HT⟩:=hrel;obtain⟨hz,⟨rl,hB,hT,hE⟩,hV⟩:=HT.out;have HB:=hid hB;have HTb:=hid hT;have HE:=hid hE;have HV:=hid hV;have HZ:=hid hz;have hzl:=HSl.out j hjn;rw[<-hz]at hzl;clear HT hB hT hE hV hz;by_cases hlt:j < nb
    ·have i1:(j:Int) < (nb:Int):=by omega
     have HBw:=hid (bt HB4.out HB.out);obtain⟨a,b,o,u,cap,ev,ea,e1,hu⟩:=HCB.out wr HBw.out j hlt;simp only[Value.slice.injEq,true_and]at ev;obtain⟨rfl,-⟩:=ev;subst ea;have KB1:=hid (HKB.out wr u j HBw.out hlt hu);have HNj:=hid (HNeg.out j hlt);have HMj:=hid (HMt.out j hlt);have HSj:=hid (HSu.out j hlt);have hvb:=HSv.out (bs.getD j [])
     have HVj:Hid (0<=bgV tl (bs.getD j [])->∀i,i < j+1->0<=bgV tl (bs.getD i [])):=hid fun hy i hi=>by
      by_cases e:i=j
      ·rw[e];exact hy
      ·exact HV.out i (by omega)
     obtain⟨au,cu,rfl,-⟩:=hu;generalize (bs.getD j []).length=lb at *;obtain⟨tv,htv⟩:∃tv,tv=bgT tl (bs.getD j []):=⟨_,rfl⟩;rw[<-htv]at KB1 HMj;clear htv;generalize bgV tl (bs.getD j [])=BV at *;clear HKB HNeg HMt HSu HSl HSv HCB;go_upto_region 8 with (first|(go_at_call 32;refine KB1.out.mono ?_;rintro e w6 ⟨q0,m0,z0,q1,m1,z1,q2,m2,z2,us6,rfl,hT6,hb6⟩)|fail)
     obtain⟨W7,hW7⟩:∃W7,W7=w6.alloc (.cells #[.slice q0 m0 z0,.slice q1 m1 z1,.slice q2 m2 z2] 53):=⟨_,rfl⟩;have hB7:Bl w6 W7:=by rw[hW7];exact(bI _ _).alloc (nR _) _
     have HX7:Hid (TX W7 w6.heap.size (.slice q0 m0 z0) (.slice q1 m1 z1) (.slice q2 m2 z2)):=hid (by rw[hW7];exact TX.made _ _ _ _);have HT7:Hid (TWr W7 wr.heap.size ⟨.slice q0 m0 z0,.slice q1 m1 z1,.slice q2 m2 z2,us6,tv.vs,tv.rows,tv.ws⟩):=hid (TW.below hT6 hB7);have HB7:=hid (bt hb6 hB7);rw[<-hW7];clear hW7 hT6 hb6 hB7 KB1 e1;by_cases hneg:BV < 0
     ·have HG:=hid (HNj.out hneg);clear HX7 HT7 HTb HE HV HVj HNj HMj HSj;go_wp2_with fail
      go_ret2;exact HEnd.out _ (bt HBw.out HB7.out) HG.out
     ·have hlr:rl.length<=12:=by have h1:=congrArg List.length HE.out;rw[lM,lM,bQ]at h1;omega
      have HOw:=hid (qB HTb.out.own HB7.out);have d0:=HX7.out.c0;have d1:=HX7.out.c1;have d2:=HX7.out.c2;have hs7:wr.heap.size<=W7.heap.size:=HB7.out.size;have hsw:w4.heap.size<=wr.heap.size:=HB.out.size;go_wp2_with (first|(at_builtin;refine wpList_append_lies _ rfl _ _ 32 rfl w4.heap.size 53 iT (.agg #[.slice none 0 0,.slice none 0 0,.slice none 0 0]) 3 72 Tryz.underlying32 hj hz0 hz1 hz2 rfl (by decide) vj rl.length (rl.flatMap tcs) rfl (HOw.out.alloc _) ⟨_,0,none⟩ 1 1 [.slice q0 m0 z0,.slice q1 m1 z1,.slice q2 m2 z2] rfl rfl (vk _ _ _ _ _) (fun u hu=>by simp at hu;rcases hu with rfl|rfl|rfl <;> rfl) (by decide) (by unfold maxLen;omega) (by omega) (by simp;omega) _ rfl ?_;intro g9 cp9 w9 hown9 hgrow9 hat9 hlt9)|fail)
      have HN:Hid (z+BV=zl tl bs (j+1)/\(∃rl',Bl w4 w9/\TBs w9 w4.heap.size (.slice (some ⟨g9,0,none⟩) (rl.length+1) cp9) rl'/\rl'.map tvB=(bs.take (j+1)).map (bgT tl))/\∀i,i < j+1->0<=bgV tl (bs.getD i [])):=hid ⟨by rw[HSj.out,HZ.out],⟨_,(KD (bt HB.out HB7.out) _).grown hgrow9 (by simp;omega) (fun q hq=>(HOw.out.lt q hq).1),HTb.out.row hsw W7 ⟨.slice q0 m0 z0,.slice q1 m1 z1,.slice q2 m2 z2,us6,tv.vs,tv.rows,tv.ws⟩ _ w9 _ HB7.out HT7.out hgrow9 hown9,by rw[mA,HE.out,HMj.out];rfl⟩,HVj.out (by omega)⟩;clear hown9 hgrow9 hat9 hlt9 HOw HTb HT7 HX7 HE HV HVj HNj HMj HSj HZ d0 d1 d2;go_wp2_with fail
      go_roundw
      case rel=>exact⟨j+1,_,z+BV,by omega,by go_num,rfl,rfl,HN⟩
      case measure=>simp[intOf];omega
    ·obtain rfl:j=nb:=by omega
     have i1:¬((j:Int) < (j:Int)):=by omega
     have HG:=hid (HYs.out HV.out);go_wp2_with fail
     go_ret2;refine⟨vj,?_,rl,HTb.out.base s4,?_,bt HB4.out HB.out⟩
     ·rw[HG.out.2,<-HZ.out];rfl
     ·rw[HG.out.1,HE.out,HMn.out]
end Go.Proofs.YtjbpgdpciinlcaaGreat
