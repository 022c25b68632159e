package rs

import (
	"bollard/api"
	"bollard/gf"
)

// A row is an equation: k factors, and behind them the bytes of the sum of the data shards, each taken times its factor.

// solve gives the data shards.
func solve(k int, list []api.Shard) [][]byte {
	rows := eliminate(k, list)
	// From the last one on, so that what is taken off a row has no other factor any more.
	for place := k - 1; place >= 0; place-- {
		for later := place + 1; later < k; later++ {
			if factor := rows[place][later]; factor != 0 {
				rows[place] = gf.AddScaled(rows[place], factor, rows[later])
			}
		}
	}
	for place := range rows {
		rows[place] = rows[place][k:]
	}
	return rows
}

// eliminate gives k rows; the one at each place has the factor 1 there, and 0 at the places ahead.
func eliminate(k int, list []api.Shard) [][]byte {
	rows, missing := dataRows(k, list)
shards:
	for _, shard := range list {
		if shard.Number < k {
			continue shards
		}
		row := rowOf(k, shard)
		for place := range k {
			if rows[place] != nil {
				row = gf.AddScaled(row, row[place], rows[place])
			}
			// The inverse is missing where the factor is 0: then the row belongs further on.
			inverse, ok := gf.Inv(row[place])
			if !ok {
				continue
			}
			rows[place] = gf.Scale(inverse, row)
			missing--
			if missing == 0 {
				// What is left of the list are data shards, which have their rows.
				break shards
			}
			continue shards
		}
	}
	return rows
}

// dataRows gives the rows of the data shards, each at its place, and how many there aren't.
func dataRows(k int, list []api.Shard) ([][]byte, int) {
	rows := make([][]byte, k)
	missing := k
	for _, shard := range list {
		if shard.Number < k {
			rows[shard.Number] = rowOf(k, shard)
			missing--
		}
	}
	return rows, missing
}

// rowOf gives the row of a shard.
func rowOf(k int, shard api.Shard) []byte {
	row := make([]byte, k, k+len(shard.Bytes))
	for j := range row {
		row[j] = factor(k, shard.Number, j)
	}
	return append(row, shard.Bytes...)
}
